/-
 The chapter's plans, as the statements of package diff lay them.
 Conditions: none.
-/
import Derived.Test.YtneeocnjfnneoaaGreatVGDifM
import Derived.Test.YtneeocnjfnneoaaGreatVGPlnRefD
import Derived.Test.YtneeocnjfnneoaaGreatVGBase
import Derived.Test.YtneeocnjfnneoaaGreatVAreRefI
import Derived.Test.YtneeocnjfnneoaaGreatVGAreM
set_option linter.unusedVariables false
set_option linter.unusedSimpArgs false
set_option maxRecDepth 100000
namespace Go.Proofs.YtneeocnjfnneoaaGreat
open Go.RowKit

set_option maxHeartbeats 8000000 in
theorem one14_at (w : World) : Calls Tryz.prog 10 #[] w fun e w' => ∃ s, e = .returned (oneV 1 s) ∧ OneAt w' s (some ⟨s + 6, 0, none⟩) 3 ∧ w'.heap[s + 6]? = some (.cells #[.int .i64 2, .int .i64 3] 3 (0, 0)) ∧ w.heap.size < s ∧ Below w.heap.size w w' := by
 have hq0 := heap_alloc_self w (.cells #[.int .i64 0, .int .i64 0, .slice none 0 0, .slice none 0 0, .slice none 0 0, .slice none 0 0] 33)
 have hqb := below_new w (.cells #[.int .i64 0, .int .i64 0, .slice none 0 0, .slice none 0 0, .slice none 0 0, .slice none 0 0] 33)
 have hqs := heap_alloc_size w (.cells #[.int .i64 0, .int .i64 0, .slice none 0 0, .slice none 0 0, .slice none 0 0, .slice none 0 0] 33)
 go_enter Tryz.func10, Tryz.ntmps10
 go_upto_region 1 with fail
 generalize w.alloc (.cells #[.int .i64 0, .int .i64 0, .slice none 0 0, .slice none 0 0, .slice none 0 0, .slice none 0 0] 33) = q at hq0 hqb hqs ⊢
 have QX := Lib.hid hq0
 have QB := Lib.hid hqb
 have QS := Lib.hid hqs
 clear hq0 hqb hqs
 have h1 := heap_alloc_self q (.cells #[.int .i64 2, .int .i64 0, .int .i64 0, .int .i64 0] 85)
 have b1 := below_new q (.cells #[.int .i64 2, .int .i64 0, .int .i64 0, .int .i64 0] 85)
 have s1 := heap_alloc_size q (.cells #[.int .i64 2, .int .i64 0, .int .i64 0, .int .i64 0] 85)
 obtain ⟨w1, e1⟩ : ∃ x, x = q.alloc (.cells #[.int .i64 2, .int .i64 0, .int .i64 0, .int .i64 0] 85) := ⟨_, rfl⟩
 rw [← e1] at h1 b1 s1
 have h2 := heap_alloc_self w1 (.cells #[.int .i64 1, .int .i64 0, .int .i64 3, .int .i64 0, .int .i64 3, .int .i64 1] 85)
 have b2 := below_new w1 (.cells #[.int .i64 1, .int .i64 0, .int .i64 3, .int .i64 0, .int .i64 3, .int .i64 1] 85)
 have s2 := heap_alloc_size w1 (.cells #[.int .i64 1, .int .i64 0, .int .i64 3, .int .i64 0, .int .i64 3, .int .i64 1] 85)
 obtain ⟨w2, e2⟩ : ∃ x, x = w1.alloc (.cells #[.int .i64 1, .int .i64 0, .int .i64 3, .int .i64 0, .int .i64 3, .int .i64 1] 85) := ⟨_, rfl⟩
 rw [← e2] at h2 b2 s2
 have h3 := heap_alloc_self w2 (.cells #[.int .i64 2, .int .i64 1, .int .i64 2, .int .i64 2] 85)
 have b3 := below_new w2 (.cells #[.int .i64 2, .int .i64 1, .int .i64 2, .int .i64 2] 85)
 have s3 := heap_alloc_size w2 (.cells #[.int .i64 2, .int .i64 1, .int .i64 2, .int .i64 2] 85)
 obtain ⟨w3, e3⟩ : ∃ x, x = w2.alloc (.cells #[.int .i64 2, .int .i64 1, .int .i64 2, .int .i64 2] 85) := ⟨_, rfl⟩
 rw [← e3] at h3 b3 s3
 have h4 := heap_alloc_self w3 (.cells #[.int .i64 1, .int .i64 0, .slice (some ⟨q.heap.size, 0, none⟩) 2 2, .int .i64 2, .int .i64 5, .slice (some ⟨q.heap.size + 1, 0, none⟩) 3 3, .int .i64 3, .int .i64 0, .slice (some ⟨q.heap.size + 2, 0, none⟩) 2 2] 67)
 have b4 := below_new w3 (.cells #[.int .i64 1, .int .i64 0, .slice (some ⟨q.heap.size, 0, none⟩) 2 2, .int .i64 2, .int .i64 5, .slice (some ⟨q.heap.size + 1, 0, none⟩) 3 3, .int .i64 3, .int .i64 0, .slice (some ⟨q.heap.size + 2, 0, none⟩) 2 2] 67)
 have s4 := heap_alloc_size w3 (.cells #[.int .i64 1, .int .i64 0, .slice (some ⟨q.heap.size, 0, none⟩) 2 2, .int .i64 2, .int .i64 5, .slice (some ⟨q.heap.size + 1, 0, none⟩) 3 3, .int .i64 3, .int .i64 0, .slice (some ⟨q.heap.size + 2, 0, none⟩) 2 2] 67)
 obtain ⟨w4, e4⟩ : ∃ x, x = w3.alloc (.cells #[.int .i64 1, .int .i64 0, .slice (some ⟨q.heap.size, 0, none⟩) 2 2, .int .i64 2, .int .i64 5, .slice (some ⟨q.heap.size + 1, 0, none⟩) 3 3, .int .i64 3, .int .i64 0, .slice (some ⟨q.heap.size + 2, 0, none⟩) 2 2] 67) := ⟨_, rfl⟩
 rw [← e4] at h4 b4 s4
 have h5 := heap_alloc_self w4 (.cells #[.int .i64 5, .int .i64 2] 60)
 have b5 := below_new w4 (.cells #[.int .i64 5, .int .i64 2] 60)
 have s5 := heap_alloc_size w4 (.cells #[.int .i64 5, .int .i64 2] 60)
 obtain ⟨w5, e5⟩ : ∃ x, x = w4.alloc (.cells #[.int .i64 5, .int .i64 2] 60) := ⟨_, rfl⟩
 rw [← e5] at h5 b5 s5
 have h6 := heap_alloc_self w5 (.cells #[.int .i64 4, .int .i64 1, .int .i64 0] 69)
 have b6 := below_new w5 (.cells #[.int .i64 4, .int .i64 1, .int .i64 0] 69)
 have s6 := heap_alloc_size w5 (.cells #[.int .i64 4, .int .i64 1, .int .i64 0] 69)
 obtain ⟨w6, e6⟩ : ∃ x, x = w5.alloc (.cells #[.int .i64 4, .int .i64 1, .int .i64 0] 69) := ⟨_, rfl⟩
 rw [← e6] at h6 b6 s6
 have h7 := heap_alloc_self w6 (.cells #[.int .i64 2, .int .i64 3] 3)
 have b7 := below_new w6 (.cells #[.int .i64 2, .int .i64 3] 3)
 have s7 := heap_alloc_size w6 (.cells #[.int .i64 2, .int .i64 3] 3)
 obtain ⟨w7, e7⟩ : ∃ x, x = w6.alloc (.cells #[.int .i64 2, .int .i64 3] 3) := ⟨_, rfl⟩
 rw [← e7] at h7 b7 s7
 have h8 := heap_alloc_self w7 (.cells #[.int .i64 8, .int .i64 4, .int .i64 0, .slice (some ⟨q.heap.size + 6, 0, none⟩) 2 2, .slice none 0 0, .slice none 0 0, .int .i64 3] 54)
 have b8 := below_new w7 (.cells #[.int .i64 8, .int .i64 4, .int .i64 0, .slice (some ⟨q.heap.size + 6, 0, none⟩) 2 2, .slice none 0 0, .slice none 0 0, .int .i64 3] 54)
 have s8 := heap_alloc_size w7 (.cells #[.int .i64 8, .int .i64 4, .int .i64 0, .slice (some ⟨q.heap.size + 6, 0, none⟩) 2 2, .slice none 0 0, .slice none 0 0, .int .i64 3] 54)
 obtain ⟨w8, e8⟩ : ∃ x, x = w7.alloc (.cells #[.int .i64 8, .int .i64 4, .int .i64 0, .slice (some ⟨q.heap.size + 6, 0, none⟩) 2 2, .slice none 0 0, .slice none 0 0, .int .i64 3] 54) := ⟨_, rfl⟩
 rw [← e8] at h8 b8 s8
 have z1 : w1.heap.size = q.heap.size + 1 := by omega
 have z2 : w2.heap.size = q.heap.size + 2 := by omega
 have z3 : w3.heap.size = q.heap.size + 3 := by omega
 have z4 : w4.heap.size = q.heap.size + 4 := by omega
 have z5 : w5.heap.size = q.heap.size + 5 := by omega
 have z6 : w6.heap.size = q.heap.size + 6 := by omega
 have z7 : w7.heap.size = q.heap.size + 7 := by omega
 have z8 : w8.heap.size = q.heap.size + 8 := by omega
 have H1 : w8.heap[q.heap.size]? = some (.cells #[.int .i64 2, .int .i64 0, .int .i64 0, .int .i64 0] 85 (0, 0)) := by exact ((b8.block _ (by omega)).trans (((b7.block _ (by omega)).trans (((b6.block _ (by omega)).trans (((b5.block _ (by omega)).trans (((b4.block _ (by omega)).trans (((b3.block _ (by omega)).trans (((b2.block _ (by omega)).trans (h1))))))))))))))
 have H2 : w8.heap[q.heap.size + 1]? = some (.cells #[.int .i64 1, .int .i64 0, .int .i64 3, .int .i64 0, .int .i64 3, .int .i64 1] 85 (0, 0)) := by rw [z1] at h2; exact ((b8.block _ (by omega)).trans (((b7.block _ (by omega)).trans (((b6.block _ (by omega)).trans (((b5.block _ (by omega)).trans (((b4.block _ (by omega)).trans (((b3.block _ (by omega)).trans (h2))))))))))))
 have H3 : w8.heap[q.heap.size + 2]? = some (.cells #[.int .i64 2, .int .i64 1, .int .i64 2, .int .i64 2] 85 (0, 0)) := by rw [z2] at h3; exact ((b8.block _ (by omega)).trans (((b7.block _ (by omega)).trans (((b6.block _ (by omega)).trans (((b5.block _ (by omega)).trans (((b4.block _ (by omega)).trans (h3))))))))))
 have H4 : w8.heap[q.heap.size + 3]? = some (.cells #[.int .i64 1, .int .i64 0, .slice (some ⟨q.heap.size, 0, none⟩) 2 2, .int .i64 2, .int .i64 5, .slice (some ⟨q.heap.size + 1, 0, none⟩) 3 3, .int .i64 3, .int .i64 0, .slice (some ⟨q.heap.size + 2, 0, none⟩) 2 2] 67 (0, 0)) := by rw [z3] at h4; exact ((b8.block _ (by omega)).trans (((b7.block _ (by omega)).trans (((b6.block _ (by omega)).trans (((b5.block _ (by omega)).trans (h4))))))))
 have H5 : w8.heap[q.heap.size + 4]? = some (.cells #[.int .i64 5, .int .i64 2] 60 (0, 0)) := by rw [z4] at h5; exact ((b8.block _ (by omega)).trans (((b7.block _ (by omega)).trans (((b6.block _ (by omega)).trans (h5))))))
 have H6 : w8.heap[q.heap.size + 5]? = some (.cells #[.int .i64 4, .int .i64 1, .int .i64 0] 69 (0, 0)) := by rw [z5] at h6; exact ((b8.block _ (by omega)).trans (((b7.block _ (by omega)).trans (h6))))
 have H7 : w8.heap[q.heap.size + 6]? = some (.cells #[.int .i64 2, .int .i64 3] 3 (0, 0)) := by rw [z6] at h7; exact ((b8.block _ (by omega)).trans (h7))
 have H8 : w8.heap[q.heap.size + 7]? = some (.cells #[.int .i64 8, .int .i64 4, .int .i64 0, .slice (some ⟨q.heap.size + 6, 0, none⟩) 2 2, .slice none 0 0, .slice none 0 0, .int .i64 3] 54 (0, 0)) := by rw [z7] at h8; exact h8
 have H0 : w8.heap[w.heap.size]? = some (.cells #[.int .i64 0, .int .i64 0, .slice none 0 0, .slice none 0 0, .slice none 0 0, .slice none 0 0] 33 (0, 0)) := ((b8.block _ (by have := QS.out; omega)).trans (((b7.block _ (by have := QS.out; omega)).trans (((b6.block _ (by have := QS.out; omega)).trans (((b5.block _ (by have := QS.out; omega)).trans (((b4.block _ (by have := QS.out; omega)).trans (((b3.block _ (by have := QS.out; omega)).trans (((b2.block _ (by have := QS.out; omega)).trans (((b1.block _ (by have := QS.out; omega)).trans (QX.out))))))))))))))))
 have hbq : Below w.heap.size w w8 := by
  refine QB.out.trans (Below.mono ?_ QB.out.size)
  have c1 := b1
  have c2 := c1.trans (b2.mono (show q.heap.size ≤ w1.heap.size by omega))
  have c3 := c2.trans (b3.mono (show q.heap.size ≤ w2.heap.size by omega))
  have c4 := c3.trans (b4.mono (show q.heap.size ≤ w3.heap.size by omega))
  have c5 := c4.trans (b5.mono (show q.heap.size ≤ w4.heap.size by omega))
  have c6 := c5.trans (b6.mono (show q.heap.size ≤ w5.heap.size by omega))
  have c7 := c6.trans (b7.mono (show q.heap.size ≤ w6.heap.size by omega))
  have c8 := c7.trans (b8.mono (show q.heap.size ≤ w7.heap.size by omega))
  exact c8
 have H0' : ((((((((q.alloc (.cells #[.int .i64 2, .int .i64 0, .int .i64 0, .int .i64 0] 85)).alloc (.cells #[.int .i64 1, .int .i64 0, .int .i64 3, .int .i64 0, .int .i64 3, .int .i64 1] 85)).alloc (.cells #[.int .i64 2, .int .i64 1, .int .i64 2, .int .i64 2] 85)).alloc (.cells #[.int .i64 1, .int .i64 0, .slice (some ⟨q.heap.size, 0, none⟩) 2 2, .int .i64 2, .int .i64 5, .slice (some ⟨q.heap.size + 1, 0, none⟩) 3 3, .int .i64 3, .int .i64 0, .slice (some ⟨q.heap.size + 2, 0, none⟩) 2 2] 67)).alloc (.cells #[.int .i64 5, .int .i64 2] 60)).alloc (.cells #[.int .i64 4, .int .i64 1, .int .i64 0] 69)).alloc (.cells #[.int .i64 2, .int .i64 3] 3)).alloc (.cells #[.int .i64 8, .int .i64 4, .int .i64 0, .slice (some ⟨q.heap.size + 6, 0, none⟩) 2 2, .slice none 0 0, .slice none 0 0, .int .i64 3] 54)).heap[w.heap.size]? = some (.cells #[.int .i64 0, .int .i64 0, .slice none 0 0, .slice none 0 0, .slice none 0 0, .slice none 0 0] 33 (0, 0)) := by rw [← e1, ← e2, ← e3, ← e4, ← e5, ← e6, ← e7, ← e8]; exact H0
 have HH0 := Lib.hid H0'
 have E : Hid (((((((((q.alloc (.cells #[.int .i64 2, .int .i64 0, .int .i64 0, .int .i64 0] 85)).alloc (.cells #[.int .i64 1, .int .i64 0, .int .i64 3, .int .i64 0, .int .i64 3, .int .i64 1] 85)).alloc (.cells #[.int .i64 2, .int .i64 1, .int .i64 2, .int .i64 2] 85)).alloc (.cells #[.int .i64 1, .int .i64 0, .slice (some ⟨q.heap.size, 0, none⟩) 2 2, .int .i64 2, .int .i64 5, .slice (some ⟨q.heap.size + 1, 0, none⟩) 3 3, .int .i64 3, .int .i64 0, .slice (some ⟨q.heap.size + 2, 0, none⟩) 2 2] 67)).alloc (.cells #[.int .i64 5, .int .i64 2] 60)).alloc (.cells #[.int .i64 4, .int .i64 1, .int .i64 0] 69)).alloc (.cells #[.int .i64 2, .int .i64 3] 3)).alloc (.cells #[.int .i64 8, .int .i64 4, .int .i64 0, .slice (some ⟨q.heap.size + 6, 0, none⟩) 2 2, .slice none 0 0, .slice none 0 0, .int .i64 3] 54)) = w8) := Lib.hid (by rw [← e1, ← e2, ← e3, ← e4, ← e5, ← e6, ← e7, ← e8])
 have K1 := Lib.hid H1
 have K2 := Lib.hid H2
 have K3 := Lib.hid H3
 have K4 := Lib.hid H4
 have K5 := Lib.hid H5
 have K6 := Lib.hid H6
 have K7 := Lib.hid H7
 have K8 := Lib.hid H8
 have K0 := Lib.hid H0
 have KB := Lib.hid hbq
 clear H0 H0' hbq H1 H2 H3 H4 H5 H6 H7 H8 h1 b1 s1 z1 h2 b2 s2 z2 h3 b3 s3 z3 h4 b4 s4 z4 h5 b5 s5 z5 h6 b6 s6 z6 h7 b7 s7 z7 h8 b8 s8 z8 e1 e2 e3 e4 e5 e6 e7 e8
 go_wp2_with ((with_reducible show wpList _ _ _ (⟨none, _, _, _, _, _⟩ :: _) _ _); refine wpList_store_rowS rfl _ (.tmp 0) (.tmp 22) rfl w.heap.size rfl (c' := #[.int .i64 2, .int .i64 1, .slice (some ⟨q.heap.size + 3, 0, none⟩) 3 3, .slice (some ⟨q.heap.size + 4, 0, none⟩) 1 1, .slice (some ⟨q.heap.size + 5, 0, none⟩) 1 1, .slice (some ⟨q.heap.size + 7, 0, none⟩) 1 1]) rfl HH0.out infoPlan6 rfl (by simp [Value.oneCell']) ?_; rw [E.out])
 have hg := grownBy_setRow w8 w.heap.size #[.int .i64 2, .int .i64 1, .slice (some ⟨q.heap.size + 3, 0, none⟩) 3 3, .slice (some ⟨q.heap.size + 4, 0, none⟩) 1 1, .slice (some ⟨q.heap.size + 5, 0, none⟩) 1 1, .slice (some ⟨q.heap.size + 7, 0, none⟩) 1 1]
 have hneq : ∀ k, q.heap.size ≤ k → k ≠ w.heap.size := fun k hk => by have := QS.out; omega
 have KK : ∀ (b : Nat) (c : Array Value) (t : TypeId), q.heap.size ≤ b → w8.heap[b]? = some (.cells c t (0, 0)) → (w8.setRow w.heap.size #[.int .i64 2, .int .i64 1, .slice (some ⟨q.heap.size + 3, 0, none⟩) 3 3, .slice (some ⟨q.heap.size + 4, 0, none⟩) 1 1, .slice (some ⟨q.heap.size + 5, 0, none⟩) 1 1, .slice (some ⟨q.heap.size + 7, 0, none⟩) 1 1]).heap[b]? = some (.cells c t (0, 0)) := fun b c t hb h => (hg.block b (heap_lt h) (fun e => hneq b hb (by injection e))).trans h
 refine bodyPost_ret (results_cell_row rfl _ _ w.heap.size 33 #[.int .i64 2, .int .i64 1, .slice (some ⟨q.heap.size + 3, 0, none⟩) 3 3, .slice (some ⟨q.heap.size + 4, 0, none⟩) 1 1, .slice (some ⟨q.heap.size + 5, 0, none⟩) 1 1, .slice (some ⟨q.heap.size + 7, 0, none⟩) 1 1] (0, 0) _ rfl (setRow_heap _ _ _ _ _ _ K0.out) Tryz.underlying33 rfl infoPlan6) rfl ⟨_, rfl, ?_, ?_, (show w.heap.size < q.heap.size by have := QS.out; omega), below_setRow KB.out (Nat.le_refl _) _⟩
 ·exact ⟨KK _ _ _ (by omega) K1.out, KK _ _ _ (by omega) K2.out, KK _ _ _ (by omega) K3.out, KK _ _ _ (by omega) K4.out, KK _ _ _ (by omega) K5.out, KK _ _ _ (by omega) K6.out, KK _ _ _ (by omega) K8.out⟩
 ·exact KK _ _ _ (by omega) K7.out
theorem one14_any (w : World) : Calls Tryz.prog 10 #[] w fun e w' => ∃ v, e = .returned v ∧ PlanV w' w'.heap.size v planOne ∧ Below w.heap.size w w' :=
 (one14_at w).mono fun e w' ⟨s, h1, h2, h3, _, h5⟩ => ⟨_, h1, h2.plan (ints2_of h3) 1, h5⟩
theorem infoPlan13 : (Tryz.prog.info? 33).map (·.size) = some 6 := by kernel_rfl
theorem OneAt.of {W W' : World} {s : Nat} {A : Option Addr} {t : Int} (h : OneAt W s A t) (hk : ∀ b, s ≤ b → b ≤ s + 7 → W'.heap[b]? = W.heap[b]?) : OneAt W' s A t :=
 ⟨(hk _ (by omega) (by omega)).trans h.r1, (hk _ (by omega) (by omega)).trans h.r2, (hk _ (by omega) (by omega)).trans h.r3, (hk _ (by omega) (by omega)).trans h.r4, (hk _ (by omega) (by omega)).trans h.r5, (hk _ (by omega) (by omega)).trans h.r6, (hk _ (by omega) (by omega)).trans h.r8⟩
/-- The chapter's plan in its blocks, a box p0 for an answer, a box p1 that holds the plan. -/
structure TwoSt (w W : World) (s p0 p1 : Nat) (row : Array Value) (t : Int) : Prop where
 one : OneAt W s (some ⟨s + 6, 0, none⟩) t
 r7 : W.heap[s + 6]? = some (.cells #[.int .i64 2, .int .i64 3] 3 (0, 0))
 x0 : W.heap[p0]? = some (.cells #[.int .i64 0, .int .i64 0, .slice none 0 0, .slice none 0 0, .slice none 0 0, .slice none 0 0] 33 (0, 0))
 x1 : W.heap[p1]? = some (.cells row 33 (0, 0))
 b : Below w.heap.size w W
 lt : w.heap.size ≤ p0 ∧ p0 < s ∧ s + 7 < p1
section
variable {w W W' : World} {s p0 p1 : Nat} {row : Array Value} {t : Int}
theorem TwoSt.set (h : TwoSt w W s p0 p1 row t) (k : Nat) (x : Value) : TwoSt w (W.setCell ⟨p1, k, none⟩ x) s p0 p1 (row.setIfInBounds k x) t := by
 obtain ⟨h1, h2, h3, h4, h5, h6⟩ := h
 exact ⟨h1.of fun b _ _ => heap_setFar W p1 k b x (by omega), (heap_setFar W p1 k _ x (by omega)).trans h2, (heap_setFar W p1 k _ x (by omega)).trans h3, heap_setK h4 x, below_set h5 (by omega) k x, h6⟩
theorem TwoSt.setT (h : TwoSt w W s p0 p1 row t) (z : Int) : TwoSt w (W.setCell ⟨s + 7, 6, none⟩ (.int .i64 z)) s p0 p1 row z := by
 obtain ⟨⟨g1, g2, g3, g4, g5, g6, g7⟩, h2, h3, h4, h5, h6⟩ := h
 have f := fun (b : Nat) (hb : b ≠ s + 7) => heap_setFar W (s + 7) 6 b (.int .i64 z) hb
 exact ⟨⟨(f _ (by omega)).trans g1, (f _ (by omega)).trans g2, (f _ (by omega)).trans g3, (f _ (by omega)).trans g4, (f _ (by omega)).trans g5, (f _ (by omega)).trans g6, heap_setK g7 _⟩, (f _ (by omega)).trans h2, (f _ (by omega)).trans h3, (f _ (by omega)).trans h4, below_set h5 (by omega) 6 _, h6⟩
theorem TwoSt.below (h : TwoSt w W s p0 p1 row t) (hb : Below W.heap.size W W') : TwoSt w W' s p0 p1 row t := by
 obtain ⟨h1, h2, h3, h4, h5, h6⟩ := h
 have hl := heap_lt h4
 exact ⟨h1.of fun b _ _ => hb.block b (by omega), (hb.block _ (by omega)).trans h2, (hb.block _ (by omega)).trans h3, (hb.block _ hl).trans h4, h5.trans (hb.mono h5.size), h6⟩
end
theorem OneAt.planS {W : World} {s : Nat} {A : Option Addr} {t : Int} {l : List Int} (h : OneAt W s A t) (hl : IntsIn W W.heap.size (.slice A 2 2) l) (ver par : Int) {sg : Value} {L : List Sg} (GG : SigsIn W W.heap.size sg L) :
  PlanV W W.heap.size (.agg #[.int .i64 ver, .int .i64 par, .slice (some ⟨s + 3, 0, none⟩) 3 3, .slice (some ⟨s + 4, 0, none⟩) 1 1, sg, .slice (some ⟨s + 7, 0, none⟩) 1 1]) ⟨ver, par, pSecs, [(5, 2)], L, [⟨8, 4, 0, l, [], [], t⟩]⟩ := by
 have J1 : JoinsIn W W.heap.size (.slice (some ⟨s, 0, none⟩) 2 2) pS1.2.2 := list_row (l := [(2, 0), (0, 0)]) h.r1 (by decide) (fun j hj => by
  match j, hj with
  | 0, _ => exact ⟨row_cj _ _ _ 0 _ h.r1 rfl, row_cj _ _ _ 1 _ h.r1 rfl⟩
  | 1, _ => exact ⟨row_cj _ _ _ 2 _ h.r1 rfl, row_cj _ _ _ 3 _ h.r1 rfl⟩)
 have J2 : JoinsIn W W.heap.size (.slice (some ⟨s + 1, 0, none⟩) 3 3) pS2.2.2 := list_row (l := [(1, 0), (3, 0), (3, 1)]) h.r2 (by decide) (fun j hj => by
  match j, hj with
  | 0, _ => exact ⟨row_cj _ _ _ 0 _ h.r2 rfl, row_cj _ _ _ 1 _ h.r2 rfl⟩
  | 1, _ => exact ⟨row_cj _ _ _ 2 _ h.r2 rfl, row_cj _ _ _ 3 _ h.r2 rfl⟩
  | 2, _ => exact ⟨row_cj _ _ _ 4 _ h.r2 rfl, row_cj _ _ _ 5 _ h.r2 rfl⟩)
 have J3 : JoinsIn W W.heap.size (.slice (some ⟨s + 2, 0, none⟩) 2 2) pS3.2.2 := list_row (l := [(2, 1), (2, 2)]) h.r3 (by decide) (fun j hj => by
  match j, hj with
  | 0, _ => exact ⟨row_cj _ _ _ 0 _ h.r3 rfl, row_cj _ _ _ 1 _ h.r3 rfl⟩
  | 1, _ => exact ⟨row_cj _ _ _ 2 _ h.r3 rfl, row_cj _ _ _ 3 _ h.r3 rfl⟩)
 have SS : SectsIn W W.heap.size (.slice (some ⟨s + 3, 0, none⟩) 3 3) pSecs := list_row (l := pSecs) h.r4 (by decide) (fun j hj => by
  match j, hj with
  | 0, _ => exact ⟨row_cj _ _ _ 0 _ h.r4 rfl, row_cj _ _ _ 1 _ h.r4 rfl, _, row_cj _ _ _ 2 _ h.r4 rfl, J1⟩
  | 1, _ => exact ⟨row_cj _ _ _ 3 _ h.r4 rfl, row_cj _ _ _ 4 _ h.r4 rfl, _, row_cj _ _ _ 5 _ h.r4 rfl, J2⟩
  | 2, _ => exact ⟨row_cj _ _ _ 6 _ h.r4 rfl, row_cj _ _ _ 7 _ h.r4 rfl, _, row_cj _ _ _ 8 _ h.r4 rfl, J3⟩)
 have PP : JoinsIn W W.heap.size (.slice (some ⟨s + 4, 0, none⟩) 1 1) [(5, 2)] := list_row (l := [(5, 2)]) h.r5 (by decide) (fun j hj => by
  match j, hj with
  | 0, _ => exact ⟨row_cj _ _ _ 0 _ h.r5 rfl, row_cj _ _ _ 1 _ h.r5 rfl⟩)
 have RR : RoutesIn W W.heap.size (.slice (some ⟨s + 7, 0, none⟩) 1 1) [⟨8, 4, 0, l, [], [], t⟩] := list_row (l := [(⟨8, 4, 0, l, [], [], t⟩ : Rt)]) h.r8 (by simp) (fun j hj => by
  match j, hj with
  | 0, _ => exact ⟨row_cj _ _ _ 0 _ h.r8 rfl, row_cj _ _ _ 1 _ h.r8 rfl, row_cj _ _ _ 2 _ h.r8 rfl, row_cj _ _ _ 6 _ h.r8 rfl, _, _, _, row_cj _ _ _ 3 _ h.r8 rfl, row_cj _ _ _ 4 _ h.r8 rfl, row_cj _ _ _ 5 _ h.r8 rfl, ⟨hl, ListIn.nil_, ListIn.nil_⟩⟩)
 exact ⟨_, _, _, _, rfl, ⟨SS, PP, GG, RR⟩⟩
theorem row2_sigs {W : World} {lo : Nat} {v : Value} (h : W.ownsRow lo 69 3 v 2 [.int .i64 4, .int .i64 1, .int .i64 0, .int .i64 7, .int .i64 3, .int .i64 0]) : SigsIn W W.heap.size v [(4, 1, 0), (7, 3, 0)] :=
 ListOwn.in_ (T := 69) (lo := lo) sigR_cells ⟨[[.int .i64 4, .int .i64 1, .int .i64 0], [.int .i64 7, .int .i64 3, .int .i64 0]], h, rfl, by unfold maxLen; simp, by simp, fun j ys x h1 h2 => by
  match j, h1, h2 with
  | 0, h1, h2 => cases h1; cases h2; exact ⟨rfl, rfl, rfl⟩
  | 1, h1, h2 => cases h1; cases h2; exact ⟨rfl, rfl, rfl⟩⟩
theorem own_set {W : World} {lo p : Nat} {T : TypeId} {sz n : Nat} {v : Value} {ys : List Value} (h : W.ownsRow lo T sz v n ys) (hp : p < lo) (k : Nat) (x : Value) : (W.setCell ⟨p, k, none⟩ x).ownsRow lo T sz v n ys := by
 obtain ⟨h1, h2⟩ := h
 refine ⟨h1, ?_⟩
 rcases h2 with h2 | ⟨g, cap, cur, a1, a2, a3, a4⟩
 ·exact .inl h2
 ·exact .inr ⟨g, cap, cur, a1, a2, (heap_setFar W p k g x (by omega)).trans a3, a4⟩
theorem own_setRow {W : World} {lo p : Nat} {T : TypeId} {sz n : Nat} {v : Value} {ys : List Value} (h : W.ownsRow lo T sz v n ys) (hp : p < lo) (c : Array Value) : (W.setRow p c).ownsRow lo T sz v n ys := by
 obtain ⟨h1, h2⟩ := h
 refine ⟨h1, ?_⟩
 rcases h2 with h2 | ⟨g, cap, cur, a1, a2, a3, a4⟩
 ·exact .inl h2
 ·exact .inr ⟨g, cap, cur, a1, a2, ((grownBy_setRow W p c).block g (heap_lt a3) (fun e => by injection e; omega)).trans a3, a4⟩
set_option maxHeartbeats 8000000 in
theorem two14_any (w : World) : Calls Tryz.prog 34 #[] w fun e w' => ∃ v, e = .returned v ∧ PlanV w' w'.heap.size v planTwo13 ∧ Below w.heap.size w w' := by
 have hx0 := heap_alloc_self w (.cells #[.int .i64 0, .int .i64 0, .slice none 0 0, .slice none 0 0, .slice none 0 0, .slice none 0 0] 33)
 have hb0 := below_new w (.cells #[.int .i64 0, .int .i64 0, .slice none 0 0, .slice none 0 0, .slice none 0 0, .slice none 0 0] 33)
 have hs0 := heap_alloc_size w (.cells #[.int .i64 0, .int .i64 0, .slice none 0 0, .slice none 0 0, .slice none 0 0, .slice none 0 0] 33)
 go_enter Tryz.func34, Tryz.ntmps34
 go_upto_region 1 with fail
 generalize w.alloc (.cells #[.int .i64 0, .int .i64 0, .slice none 0 0, .slice none 0 0, .slice none 0 0, .slice none 0 0] 33) = q at hx0 hb0 hs0 ⊢
 have X0 := Lib.hid hx0
 have BQ := Lib.hid hb0
 have QS := Lib.hid hs0
 clear hx0 hb0 hs0
 go_wp2_with fail
 refine (one14_at q).mono ?_
 rintro e w1 ⟨s, rfl, hA, h7, hs, b1⟩
 have XX0 := heap_alloc_self w1 (.cells #[.int .i64 0, .int .i64 0, .slice none 0 0, .slice none 0 0, .slice none 0 0, .slice none 0 0] 33)
 have hb4 := below_setRow (below_new w1 (.cells #[.int .i64 0, .int .i64 0, .slice none 0 0, .slice none 0 0, .slice none 0 0, .slice none 0 0] 33)) (Nat.le_refl _) #[.int .i64 2, .int .i64 1, .slice (some ⟨s + 3, 0, none⟩) 3 3, .slice (some ⟨s + 4, 0, none⟩) 1 1, .slice (some ⟨s + 5, 0, none⟩) 1 1, .slice (some ⟨s + 7, 0, none⟩) 1 1]
 have hx4 := setRow_heap (w1.alloc (.cells #[.int .i64 0, .int .i64 0, .slice none 0 0, .slice none 0 0, .slice none 0 0, .slice none 0 0] 33)) w1.heap.size _ #[.int .i64 2, .int .i64 1, .slice (some ⟨s + 3, 0, none⟩) 3 3, .slice (some ⟨s + 4, 0, none⟩) 1 1, .slice (some ⟨s + 5, 0, none⟩) 1 1, .slice (some ⟨s + 7, 0, none⟩) 1 1] 33 _ XX0
 have h0' := (b1.block _ (heap_lt X0.out)).trans X0.out
 have hlt := heap_lt hA.r8
 have bq := BQ.out.trans (b1.mono BQ.out.size)
 have AT := Lib.hid hA
 have A7 := Lib.hid h7
 have A0 := Lib.hid h0'
 have AB := Lib.hid bq
 have AL : Hid (q.heap.size < s ∧ s + 7 < w1.heap.size ∧ w.heap.size < q.heap.size) := Lib.hid ⟨hs, hlt, by have := QS.out; omega⟩
 clear hA h7 hs b1 h0' bq hlt X0 BQ QS
 go_upto_region 2 with ((with_reducible show wpList _ _ _ (⟨none, _, _, _, _, _⟩ :: _) _ _); refine wpList_store_rowS rfl _ (.tmp 1) (.tmp 2) rfl w1.heap.size rfl (c' := #[.int .i64 2, .int .i64 1, .slice (some ⟨s + 3, 0, none⟩) 3 3, .slice (some ⟨s + 4, 0, none⟩) 1 1, .slice (some ⟨s + 5, 0, none⟩) 1 1, .slice (some ⟨s + 7, 0, none⟩) 1 1]) rfl XX0 infoPlan13 rfl (by simp [Value.oneCell']) ?_)
 generalize (w1.alloc (.cells #[.int .i64 0, .int .i64 0, .slice none 0 0, .slice none 0 0, .slice none 0 0, .slice none 0 0] 33)).setRow w1.heap.size #[.int .i64 2, .int .i64 1, .slice (some ⟨s + 3, 0, none⟩) 3 3, .slice (some ⟨s + 4, 0, none⟩) 1 1, .slice (some ⟨s + 5, 0, none⟩) 1 1, .slice (some ⟨s + 7, 0, none⟩) 1 1] = q1 at hb4 hx4 ⊢
 obtain ⟨p1, hp1⟩ : ∃ n, n = w1.heap.size := ⟨_, rfl⟩
 obtain ⟨p0, hp0⟩ : ∃ n, n = w.heap.size := ⟨_, rfl⟩
 have ST : Hid (TwoSt w q1 s p0 p1 #[.int .i64 2, .int .i64 1, .slice (some ⟨s + 3, 0, none⟩) 3 3, .slice (some ⟨s + 4, 0, none⟩) 1 1, .slice (some ⟨s + 5, 0, none⟩) 1 1, .slice (some ⟨s + 7, 0, none⟩) 1 1] 3) := Lib.hid ⟨AT.out.of fun b _ _ => hb4.block b (by have := AL.out; omega), (hb4.block _ (by have := AL.out; omega)).trans A7.out, (hb4.block _ (by rw [hp0]; have := AL.out; omega)).trans (by rw [hp0]; exact A0.out), by rw [hp1]; exact hx4, AB.out.trans (hb4.mono AB.out.size), by have := AL.out; omega⟩
 rw [← hp1, ← hp0]
 clear hp1 hp0 hb4 hx4 XX0 AT A7 A0 AB AL
 try simp only [zn, Act.put]
 obtain ⟨k0, k1, k2, k3, k4, k5⟩ := cell6_of ST.out.x1
 have fz := frozen2_of ST.out.x1 0
 go_upto_region 3 with fail
 have tS := ST.out.set 0 (.int .i64 3)
 generalize q1.setCell ⟨p1, 0, none⟩ (.int .i64 3) = q2 at tS ⊢
 clear ST fz
 clear k0 k1 k2 k3 k4 k5
 have ST : Hid (TwoSt w q2 s p0 p1 #[.int .i64 3, .int .i64 1, .slice (some ⟨s + 3, 0, none⟩) 3 3, .slice (some ⟨s + 4, 0, none⟩) 1 1, .slice (some ⟨s + 5, 0, none⟩) 1 1, .slice (some ⟨s + 7, 0, none⟩) 1 1] 3) := Lib.hid tS
 clear tS
 obtain ⟨k0, k1, k2, k3, k4, k5⟩ := cell6_of ST.out.x1
 have fz := frozen2_of ST.out.x1 1
 go_upto_region 4 with fail
 have tS := ST.out.set 1 (.int .i64 2)
 generalize q2.setCell ⟨p1, 1, none⟩ (.int .i64 2) = q3 at tS ⊢
 clear ST fz
 clear k0 k1 k2 k3 k4 k5
 have ST : Hid (TwoSt w q3 s p0 p1 #[.int .i64 3, .int .i64 2, .slice (some ⟨s + 3, 0, none⟩) 3 3, .slice (some ⟨s + 4, 0, none⟩) 1 1, .slice (some ⟨s + 5, 0, none⟩) 1 1, .slice (some ⟨s + 7, 0, none⟩) 1 1] 3) := Lib.hid tS
 clear tS
 obtain ⟨k0, k1, k2, k3, k4, k5⟩ := cell6_of ST.out.x1
 have fz := frozen2_of ST.out.one.r8 6
 have r86 := row_cj _ _ _ 6 _ ST.out.one.r8 rfl
 go_upto_region 5 with fail
 have tS := ST.out.setT 4
 generalize q3.setCell ⟨s + 7, 6, none⟩ (.int .i64 4) = q4 at tS ⊢
 clear ST fz
 clear r86
 clear k0 k1 k2 k3 k4 k5
 have ST := Lib.hid tS
 clear tS
 obtain ⟨k0, k1, k2, k3, k4, k5⟩ := cell6_of ST.out.x1
 obtain ⟨i0, hi, hz0, hz1, hz2⟩ := info_parts infoSigI
 have hbn := below_new q4 (.cells #[.int .i64 7, .int .i64 3, .int .i64 0] 69)
 have SN := Lib.hid (ST.out.below hbn)
 have NR := Lib.hid (heap_alloc_self q4 (.cells #[.int .i64 7, .int .i64 3, .int .i64 0] 69))
 have NS := Lib.hid (heap_alloc_size q4 (.cells #[.int .i64 7, .int .i64 3, .int .i64 0] 69))
 have LT : Hid (p1 < q4.heap.size) := Lib.hid (heap_lt ST.out.x1)
 have I0 := Lib.hid hi
 have I1 := Lib.hid hz0
 have I2 := Lib.hid hz1
 have I3 := Lib.hid hz2
 clear hbn hi hz0 hz1 hz2
 go_upto_region 6 with ((with_reducible show wpList _ _ _ (⟨some 13, _, _, _, _, _⟩ :: _) _ _); refine wpList_append_grows _ rfl (.tmp 10) (.tmp 12) 30 rfl 69 i0 _ 3 _ Tryz.underlying30 I0.out I1.out I2.out I3.out rfl (by decide) (some ⟨s + 5, 0, none⟩) 1 1 [.int .i64 4, .int .i64 1, .int .i64 0] rfl (fun h => by cases h) rfl (fun b hb j u hj => by cases hb; rw [Addr.add_lit, Nat.zero_add, cell_of_row _ _ _ _ _ _ SN.out.one.r6]; simpa using hj) ⟨q4.heap.size, 0, none⟩ 1 1 [.int .i64 7, .int .i64 3, .int .i64 0] rfl rfl (fun j u hj => by rw [Addr.add_lit, Nat.zero_add, cell_of_row _ _ _ _ _ _ NR.out]; simpa using hj) (by simp [Value.oneCell']) (by decide) (by unfold maxLen; omega) (by decide) ?_; intro v3 w3 hown3 hgrow3; obtain ⟨A3, c3, rfl⟩ := own_sliceN hown3; have O3 := Lib.hid hown3; have SG3 := ST.out; have T3 : Hid (TwoSt w w3 s p0 p1 #[.int .i64 3, .int .i64 2, .slice (some ⟨s + 3, 0, none⟩) 3 3, .slice (some ⟨s + 4, 0, none⟩) 1 1, .slice (some ⟨s + 5, 0, none⟩) 1 1, .slice (some ⟨s + 7, 0, none⟩) 1 1] 4) := Lib.hid (SN.out.below ((Below.refl _ _).grown hgrow3 (Nat.le_refl _) (fun k hk => by cases hk))); clear hown3 hgrow3 SG3 k0 k1 k2 k3 k4 k5 SN NR; obtain ⟨k0, k1, k2, k3, k4, k5⟩ := cell6_of T3.out.x1; have fz := frozen2_of T3.out.x1 4)
 have t3 := T3.out.set 4 (.slice A3 2 c3)
 generalize hq5 : w3.setCell ⟨p1, 4, none⟩ (.slice A3 2 c3) = q5 at t3 ⊢
 obtain ⟨lo3, hlo3⟩ : ∃ n, n = (q4.alloc (.cells #[.int .i64 7, .int .i64 3, .int .i64 0] 69)).heap.size := ⟨_, rfl⟩
 have N3 : Hid (p1 < lo3) := Lib.hid (by have := LT.out; have := NS.out; omega)
 have G3 : Hid (q5.ownsRow lo3 69 3 (.slice A3 2 c3) 2 [.int .i64 4, .int .i64 1, .int .i64 0, .int .i64 7, .int .i64 3, .int .i64 0]) := Lib.hid (by rw [← hq5, hlo3]; exact own_set O3.out (by have := LT.out; have := NS.out; omega) 4 _)
 have ST : Hid (TwoSt w q5 s p0 p1 #[.int .i64 3, .int .i64 2, .slice (some ⟨s + 3, 0, none⟩) 3 3, .slice (some ⟨s + 4, 0, none⟩) 1 1, .slice A3 2 c3, .slice (some ⟨s + 7, 0, none⟩) 1 1] 4) := Lib.hid t3
 clear hlo3 t3 hq5 T3 fz O3 k0 k1 k2 k3 k4 k5 LT NS
 obtain ⟨k0, k1, k2, k3, k4, k5⟩ := cell6_of ST.out.x1
 have X0 := ST.out.x0
 have HB := below_setRow (g := p0) ST.out.b ST.out.lt.1 #[.int .i64 3, .int .i64 2, .slice (some ⟨s + 3, 0, none⟩) 3 3, .slice (some ⟨s + 4, 0, none⟩) 1 1, .slice A3 2 c3, .slice (some ⟨s + 7, 0, none⟩) 1 1]
 go_wp2_with ((with_reducible show wpList _ _ _ (⟨none, _, _, _, _, _⟩ :: _) _ _); refine wpList_store_rowS rfl _ (.tmp 0) (.tmp 15) rfl p0 rfl (c' := #[.int .i64 3, .int .i64 2, .slice (some ⟨s + 3, 0, none⟩) 3 3, .slice (some ⟨s + 4, 0, none⟩) 1 1, .slice A3 2 c3, .slice (some ⟨s + 7, 0, none⟩) 1 1]) rfl X0 infoPlan13 rfl (by simp [Value.oneCell']) ?_)
 have hL := ST.out.lt
 have hz := heap_lt ST.out.x1
 have hg := fun (b : Nat) (hb : b ≠ p0) (hl : b < q5.heap.size) => (grownBy_setRow q5 p0 #[.int .i64 3, .int .i64 2, .slice (some ⟨s + 3, 0, none⟩) 3 3, .slice (some ⟨s + 4, 0, none⟩) 1 1, .slice A3 2 c3, .slice (some ⟨s + 7, 0, none⟩) 1 1]).block b hl (fun e => hb (by injection e))
 refine bodyPost_ret (results_cell_row rfl _ _ p0 33 #[.int .i64 3, .int .i64 2, .slice (some ⟨s + 3, 0, none⟩) 3 3, .slice (some ⟨s + 4, 0, none⟩) 1 1, .slice A3 2 c3, .slice (some ⟨s + 7, 0, none⟩) 1 1] (0, 0) _ rfl (setRow_heap _ _ _ _ _ _ X0) Tryz.underlying33 rfl infoPlan13) rfl ⟨_, rfl, ?_, HB⟩
 have O2 : OneAt (q5.setRow p0 #[.int .i64 3, .int .i64 2, .slice (some ⟨s + 3, 0, none⟩) 3 3, .slice (some ⟨s + 4, 0, none⟩) 1 1, .slice A3 2 c3, .slice (some ⟨s + 7, 0, none⟩) 1 1]) s (some ⟨s + 6, 0, none⟩) 4 := ST.out.one.of fun b h1 h2 => hg b (by omega) (by omega)
 exact O2.planS (ints2_of ((hg _ (by omega) (by omega)).trans ST.out.r7)) 3 2 (row2_sigs (own_setRow G3.out (by have := N3.out; omega) _))

theorem ints1_of {W : World} {g : Nat} {x : Int} (h : W.heap[g]? = some (.cells #[.int .i64 x] 3 (0, 0))) : IntsIn W W.heap.size (.slice (some ⟨g, 0, none⟩) 1 1) [x] := list_row (l := [x]) h (by simp) (fun j hj => by
  match j, hj with
  | 0, _ => exact row_cj _ _ _ 0 _ h rfl)
theorem boxes5 (w : World) (a b c d e : Obj) : ∃ q, q = ((((w.alloc a).alloc b).alloc c).alloc d).alloc e ∧ q.heap[w.heap.size]? = some a ∧ q.heap[w.heap.size + 1]? = some b ∧ q.heap[w.heap.size + 1 + 1]? = some c ∧ q.heap[w.heap.size + 1 + 1 + 1]? = some d ∧ q.heap[w.heap.size + 1 + 1 + 1 + 1]? = some e ∧ Below w.heap.size w q := by
 obtain ⟨q3, e3, h0, h1, h2, hs, hb⟩ := boxes3 w a b c
 have hs4 : (q3.alloc d).heap.size = w.heap.size + 1 + 1 + 1 + 1 := by unfold World.alloc; rw [Array.size_push]; omega
 have h3 := heap_alloc_self q3 d
 rw [show q3.heap.size = w.heap.size + 1 + 1 + 1 by omega] at h3
 have h4 := heap_alloc_self (q3.alloc d) e
 rw [hs4] at h4
 have b4 := below_new q3 d
 have b5 := below_new (q3.alloc d) e
 refine ⟨(q3.alloc d).alloc e, by rw [e3], ?_, ?_, ?_, ?_, h4, (hb.alloc hb.size d).alloc (Nat.le_trans hb.size b4.size) e⟩
 ·exact (b5.block _ (by omega)).trans ((b4.block _ (heap_lt h0)).trans h0)
 ·exact (b5.block _ (by omega)).trans ((b4.block _ (heap_lt h1)).trans h1)
 ·exact (b5.block _ (by omega)).trans ((b4.block _ (heap_lt h2)).trans h2)
 ·exact (b5.block _ (by omega)).trans h3
set_option maxHeartbeats 8000000 in
theorem alive14 (hc : AreaSaid) (w : World) : Calls Tryz.prog 12 #[] w fun e w' => e = .returned (.bool true) ∧ Below w.heap.size w w' := by
 go_enter Tryz.func12, Tryz.ntmps12
 go_wp2_with fail
 refine (one14_any _).mono ?_
 rintro e wa ⟨v0, rfl, hv0, ba⟩
 have B0 := Lib.hid ba
 go_wp2_with fail
 refine (hc.uses v0 planOne 8 wa hv0).mono ?_
 rintro e w1 ⟨u0, u1, u2, u3, rfl, hu, b1⟩
 rw [usV_one.2] at hu
 rw [usV_one.1]
 obtain ⟨U0, nU0, cU0, rfl⟩ := ints_sl hu.secs
 obtain ⟨U1, nU1, cU1, rfl⟩ := ints_sl hu.pts
 obtain ⟨U2, nU2, cU2, rfl⟩ := ints_sl hu.sigs
 obtain ⟨U3, nU3, cU3, rfl⟩ := ints_sl hu.routes
 have AU := Lib.hid hu
 clear hu hv0 ba
 replace B0 := Lib.hid (B0.out.trans (b1.mono B0.out.size))
 clear b1
 go_upto_region 2 with ((with_reducible show wpList _ _ _ (⟨none, _, _, _, _, _⟩ :: _) _ _); refine wpList_store_rowS rfl _ (.tmp 1) (.tmp 10) rfl w1.heap.size rfl (c' := #[.slice U0 nU0 cU0, .slice U1 nU1 cU1, .slice U2 nU2 cU2, .slice U3 nU3 cU3]) rfl (heap_alloc_self w1 (.cells #[.slice none 0 0, .slice none 0 0, .slice none 0 0, .slice none 0 0] 24)) infoArea4 rfl (by simp [Value.oneCell']) ?_)
 rw [World.setRow_alloc_new]
 have hx1 := heap_alloc_self w1 (.cells #[.slice U0 nU0 cU0, .slice U1 nU1 cU1, .slice U2 nU2 cU2, .slice U3 nU3 cU3] 24)
 have hb1 := below_new w1 (.cells #[.slice U0 nU0 cU0, .slice U1 nU1 cU1, .slice U2 nU2 cU2, .slice U3 nU3 cU3] 24)
 generalize w1.alloc (.cells #[.slice U0 nU0 cU0, .slice U1 nU1 cU1, .slice U2 nU2 cU2, .slice U3 nU3 cU3] 24) = w2 at hb1 hx1 ⊢
 obtain ⟨p1, hp1⟩ : ∃ n, n = w1.heap.size := ⟨_, rfl⟩
 rw [← hp1] at hx1 ⊢
 have XU := Lib.hid hx1
 clear hx1 hp1
 replace AU := Lib.hid ((AU.out.below hb1).more hb1.size)
 replace B0 := Lib.hid (B0.out.trans (hb1.mono B0.out.size))
 clear hb1
 go_wp2_with fail
 refine (one14_any _).mono ?_
 rintro e w3 ⟨v1, rfl, hv1, b1⟩
 have V1 := Lib.hid hv1
 clear hv1
 replace XU := Lib.hid ((b1.block _ (heap_lt XU.out)).trans XU.out)
 replace AU := Lib.hid ((AU.out.below b1).more b1.size)
 replace B0 := Lib.hid (B0.out.trans (b1.mono B0.out.size))
 clear b1
 go_wp2_with fail
 refine (two14_any _).mono ?_
 rintro e w4 ⟨v2, rfl, hv2, b1⟩
 have V2 := Lib.hid hv2
 clear hv2
 replace XU := Lib.hid ((b1.block _ (heap_lt XU.out)).trans XU.out)
 replace AU := Lib.hid ((AU.out.below b1).more b1.size)
 replace V1 := Lib.hid ((V1.out.below b1).more b1.size)
 replace B0 := Lib.hid (B0.out.trans (b1.mono B0.out.size))
 clear b1
 go_wp2_with fail
 refine (hc.of v1 v2 planOne planTwo13 w4 V1.out V2.out).mono ?_
 rintro e w5 ⟨u0, u1, u2, u3, rfl, hu, b1⟩
 rw [arV_one_two.2] at hu
 rw [arV_one_two.1]
 obtain ⟨O0, nO0, cO0, rfl⟩ := ints_sl hu.secs
 obtain ⟨O1, nO1, cO1, rfl⟩ := ints_sl hu.pts
 obtain ⟨O2, nO2, cO2, rfl⟩ := ints_sl hu.sigs
 obtain ⟨O3, nO3, cO3, rfl⟩ := ints_sl hu.routes
 have AO := Lib.hid hu
 clear hu V1 V2
 replace XU := Lib.hid ((b1.block _ (heap_lt XU.out)).trans XU.out)
 replace AU := Lib.hid ((AU.out.below b1).more b1.size)
 replace B0 := Lib.hid (B0.out.trans (b1.mono B0.out.size))
 clear b1
 go_upto_region 3 with ((with_reducible show wpList _ _ _ (⟨none, _, _, _, _, _⟩ :: _) _ _); refine wpList_store_rowS rfl _ (.tmp 3) (.tmp 16) rfl w5.heap.size rfl (c' := #[.slice O0 nO0 cO0, .slice O1 nO1 cO1, .slice O2 nO2 cO2, .slice O3 nO3 cO3]) rfl (heap_alloc_self w5 (.cells #[.slice none 0 0, .slice none 0 0, .slice none 0 0, .slice none 0 0] 24)) infoArea4 rfl (by simp [Value.oneCell']) ?_)
 rw [World.setRow_alloc_new]
 have hx1 := heap_alloc_self w5 (.cells #[.slice O0 nO0 cO0, .slice O1 nO1 cO1, .slice O2 nO2 cO2, .slice O3 nO3 cO3] 24)
 have hb1 := below_new w5 (.cells #[.slice O0 nO0 cO0, .slice O1 nO1 cO1, .slice O2 nO2 cO2, .slice O3 nO3 cO3] 24)
 generalize w5.alloc (.cells #[.slice O0 nO0 cO0, .slice O1 nO1 cO1, .slice O2 nO2 cO2, .slice O3 nO3 cO3] 24) = w6 at hb1 hx1 ⊢
 obtain ⟨p3, hp1⟩ : ∃ n, n = w5.heap.size := ⟨_, rfl⟩
 rw [← hp1] at hx1 ⊢
 have XO := Lib.hid hx1
 clear hx1 hp1
 replace XU := Lib.hid ((hb1.block _ (heap_lt XU.out)).trans XU.out)
 replace AU := Lib.hid ((AU.out.below hb1).more hb1.size)
 replace AO := Lib.hid ((AO.out.below hb1).more hb1.size)
 replace B0 := Lib.hid (B0.out.trans (hb1.mono B0.out.size))
 clear hb1
 obtain ⟨qL, hqL, r0, r1, r2, r3, rz, hbL⟩ := boxes5 w6 (.cells #[.int .i64 2, .int .i64 3] 3) (.cells #[.int .i64 5] 3) (.cells #[.int .i64 4] 3) (.cells #[.int .i64 8] 3) (.cells #[.slice none 0 0, .slice none 0 0, .slice none 0 0, .slice none 0 0] 24)
 have hg := grownBy_setRow qL (w6.heap.size + 1 + 1 + 1 + 1) #[.slice (some ⟨w6.heap.size, 0, none⟩) 2 2, .slice (some ⟨w6.heap.size + 1, 0, none⟩) 1 1, .slice (some ⟨w6.heap.size + 1 + 1, 0, none⟩) 1 1, .slice (some ⟨w6.heap.size + 1 + 1 + 1, 0, none⟩) 1 1]
 have k0 := (hg.block _ (heap_lt r0) (fun e => by injection e with e; omega)).trans r0
 have k1 := (hg.block _ (heap_lt r1) (fun e => by injection e with e; omega)).trans r1
 have k2 := (hg.block _ (heap_lt r2) (fun e => by injection e with e; omega)).trans r2
 have k3 := (hg.block _ (heap_lt r3) (fun e => by injection e with e; omega)).trans r3
 have hx1 := setRow_heap qL (w6.heap.size + 1 + 1 + 1 + 1) _ #[.slice (some ⟨w6.heap.size, 0, none⟩) 2 2, .slice (some ⟨w6.heap.size + 1, 0, none⟩) 1 1, .slice (some ⟨w6.heap.size + 1 + 1, 0, none⟩) 1 1, .slice (some ⟨w6.heap.size + 1 + 1 + 1, 0, none⟩) 1 1] _ _ rz
 have hb1 := hbL.trans (gb_low14 hg (by omega) hbL.size)
 have ha : ArIn (qL.setRow (w6.heap.size + 1 + 1 + 1 + 1) #[.slice (some ⟨w6.heap.size, 0, none⟩) 2 2, .slice (some ⟨w6.heap.size + 1, 0, none⟩) 1 1, .slice (some ⟨w6.heap.size + 1 + 1, 0, none⟩) 1 1, .slice (some ⟨w6.heap.size + 1 + 1 + 1, 0, none⟩) 1 1]) (qL.setRow (w6.heap.size + 1 + 1 + 1 + 1) #[.slice (some ⟨w6.heap.size, 0, none⟩) 2 2, .slice (some ⟨w6.heap.size + 1, 0, none⟩) 1 1, .slice (some ⟨w6.heap.size + 1 + 1, 0, none⟩) 1 1, .slice (some ⟨w6.heap.size + 1 + 1 + 1, 0, none⟩) 1 1]).heap.size (.slice (some ⟨w6.heap.size, 0, none⟩) 2 2) (.slice (some ⟨w6.heap.size + 1, 0, none⟩) 1 1) (.slice (some ⟨w6.heap.size + 1 + 1, 0, none⟩) 1 1) (.slice (some ⟨w6.heap.size + 1 + 1 + 1, 0, none⟩) 1 1) ⟨[2, 3], [5], [4], [8]⟩ := ⟨ints2_of k0, ints1_of k1, ints1_of k2, ints1_of k3⟩
 go_upto_region 4 with ((with_reducible show wpList _ _ _ (⟨none, _, _, _, _, _⟩ :: _) _ _); rw [← hqL]; refine wpList_store_rowS rfl _ (.tmp 5) (.tmp 22) rfl (w6.heap.size + 1 + 1 + 1 + 1) rfl (c' := #[.slice (some ⟨w6.heap.size, 0, none⟩) 2 2, .slice (some ⟨w6.heap.size + 1, 0, none⟩) 1 1, .slice (some ⟨w6.heap.size + 1 + 1, 0, none⟩) 1 1, .slice (some ⟨w6.heap.size + 1 + 1 + 1, 0, none⟩) 1 1]) rfl rz infoArea4 rfl (by simp [Value.oneCell']) ?_)
 clear k0 k1 k2 k3 r0 r1 r2 r3 rz hbL hg hqL
 generalize qL.setRow (w6.heap.size + 1 + 1 + 1 + 1) #[.slice (some ⟨w6.heap.size, 0, none⟩) 2 2, .slice (some ⟨w6.heap.size + 1, 0, none⟩) 1 1, .slice (some ⟨w6.heap.size + 1 + 1, 0, none⟩) 1 1, .slice (some ⟨w6.heap.size + 1 + 1 + 1, 0, none⟩) 1 1] = w7 at hx1 hb1 ha ⊢
 have XP := Lib.hid hx1
 have AP := Lib.hid ha
 clear hx1 ha qL
 replace XU := Lib.hid ((hb1.block _ (heap_lt XU.out)).trans XU.out)
 replace XO := Lib.hid ((hb1.block _ (heap_lt XO.out)).trans XO.out)
 replace AU := Lib.hid ((AU.out.below hb1).more hb1.size)
 replace AO := Lib.hid ((AO.out.below hb1).more hb1.size)
 replace B0 := Lib.hid (B0.out.trans (hb1.mono B0.out.size))
 clear hb1
 obtain ⟨qL, hqL, r0, r1, r2, r3, rz, hbL⟩ := boxes5 w7 (.cells #[.int .i64 2, .int .i64 3] 3) (.cells #[.int .i64 5] 3) (.cells #[.int .i64 4, .int .i64 7] 3) (.cells #[.int .i64 8] 3) (.cells #[.slice none 0 0, .slice none 0 0, .slice none 0 0, .slice none 0 0] 24)
 have hg := grownBy_setRow qL (w7.heap.size + 1 + 1 + 1 + 1) #[.slice (some ⟨w7.heap.size, 0, none⟩) 2 2, .slice (some ⟨w7.heap.size + 1, 0, none⟩) 1 1, .slice (some ⟨w7.heap.size + 1 + 1, 0, none⟩) 2 2, .slice (some ⟨w7.heap.size + 1 + 1 + 1, 0, none⟩) 1 1]
 have k0 := (hg.block _ (heap_lt r0) (fun e => by injection e with e; omega)).trans r0
 have k1 := (hg.block _ (heap_lt r1) (fun e => by injection e with e; omega)).trans r1
 have k2 := (hg.block _ (heap_lt r2) (fun e => by injection e with e; omega)).trans r2
 have k3 := (hg.block _ (heap_lt r3) (fun e => by injection e with e; omega)).trans r3
 have hx1 := setRow_heap qL (w7.heap.size + 1 + 1 + 1 + 1) _ #[.slice (some ⟨w7.heap.size, 0, none⟩) 2 2, .slice (some ⟨w7.heap.size + 1, 0, none⟩) 1 1, .slice (some ⟨w7.heap.size + 1 + 1, 0, none⟩) 2 2, .slice (some ⟨w7.heap.size + 1 + 1 + 1, 0, none⟩) 1 1] _ _ rz
 have hb1 := hbL.trans (gb_low14 hg (by omega) hbL.size)
 have ha : ArIn (qL.setRow (w7.heap.size + 1 + 1 + 1 + 1) #[.slice (some ⟨w7.heap.size, 0, none⟩) 2 2, .slice (some ⟨w7.heap.size + 1, 0, none⟩) 1 1, .slice (some ⟨w7.heap.size + 1 + 1, 0, none⟩) 2 2, .slice (some ⟨w7.heap.size + 1 + 1 + 1, 0, none⟩) 1 1]) (qL.setRow (w7.heap.size + 1 + 1 + 1 + 1) #[.slice (some ⟨w7.heap.size, 0, none⟩) 2 2, .slice (some ⟨w7.heap.size + 1, 0, none⟩) 1 1, .slice (some ⟨w7.heap.size + 1 + 1, 0, none⟩) 2 2, .slice (some ⟨w7.heap.size + 1 + 1 + 1, 0, none⟩) 1 1]).heap.size (.slice (some ⟨w7.heap.size, 0, none⟩) 2 2) (.slice (some ⟨w7.heap.size + 1, 0, none⟩) 1 1) (.slice (some ⟨w7.heap.size + 1 + 1, 0, none⟩) 2 2) (.slice (some ⟨w7.heap.size + 1 + 1 + 1, 0, none⟩) 1 1) ⟨[2, 3], [5], [4, 7], [8]⟩ := ⟨ints2_of k0, ints1_of k1, ints2_of k2, ints1_of k3⟩
 go_upto_region 5 with ((with_reducible show wpList _ _ _ (⟨none, _, _, _, _, _⟩ :: _) _ _); rw [← hqL]; refine wpList_store_rowS rfl _ (.tmp 6) (.tmp 27) rfl (w7.heap.size + 1 + 1 + 1 + 1) rfl (c' := #[.slice (some ⟨w7.heap.size, 0, none⟩) 2 2, .slice (some ⟨w7.heap.size + 1, 0, none⟩) 1 1, .slice (some ⟨w7.heap.size + 1 + 1, 0, none⟩) 2 2, .slice (some ⟨w7.heap.size + 1 + 1 + 1, 0, none⟩) 1 1]) rfl rz infoArea4 rfl (by simp [Value.oneCell']) ?_)
 clear k0 k1 k2 k3 r0 r1 r2 r3 rz hbL hg hqL
 generalize qL.setRow (w7.heap.size + 1 + 1 + 1 + 1) #[.slice (some ⟨w7.heap.size, 0, none⟩) 2 2, .slice (some ⟨w7.heap.size + 1, 0, none⟩) 1 1, .slice (some ⟨w7.heap.size + 1 + 1, 0, none⟩) 2 2, .slice (some ⟨w7.heap.size + 1 + 1 + 1, 0, none⟩) 1 1] = w8 at hx1 hb1 ha ⊢
 have XQ := Lib.hid hx1
 have AQ := Lib.hid ha
 clear hx1 ha qL
 replace XU := Lib.hid ((hb1.block _ (heap_lt XU.out)).trans XU.out)
 replace XO := Lib.hid ((hb1.block _ (heap_lt XO.out)).trans XO.out)
 replace XP := Lib.hid ((hb1.block _ (heap_lt XP.out)).trans XP.out)
 replace AU := Lib.hid ((AU.out.below hb1).more hb1.size)
 replace AO := Lib.hid ((AO.out.below hb1).more hb1.size)
 replace AP := Lib.hid ((AP.out.below hb1).more hb1.size)
 replace B0 := Lib.hid (B0.out.trans (hb1.mono B0.out.size))
 clear hb1
 obtain ⟨k0, k1, k2, k3⟩ := cell4A XU.out
 obtain ⟨m0, m1, m2, m3⟩ := cell4A XP.out
 go_wp2_with fail
 refine (rsame14_any _ _ _ _ w8 ⟨_, _, _, _, rfl, AU.out⟩ ⟨_, _, _, _, rfl, AP.out⟩).mono ?_
 rintro e w9 ⟨rfl, b1⟩
 rw [eqB_true rfl]
 clear k0 k1 k2 k3 m0 m1 m2 m3
 replace XU := Lib.hid ((b1.block _ (heap_lt XU.out)).trans XU.out)
 replace XO := Lib.hid ((b1.block _ (heap_lt XO.out)).trans XO.out)
 replace XP := Lib.hid ((b1.block _ (heap_lt XP.out)).trans XP.out)
 replace XQ := Lib.hid ((b1.block _ (heap_lt XQ.out)).trans XQ.out)
 replace AU := Lib.hid ((AU.out.below b1).more b1.size)
 replace AO := Lib.hid ((AO.out.below b1).more b1.size)
 replace AP := Lib.hid ((AP.out.below b1).more b1.size)
 replace AQ := Lib.hid ((AQ.out.below b1).more b1.size)
 replace B0 := Lib.hid (B0.out.trans (b1.mono B0.out.size))
 clear b1
 obtain ⟨k0, k1, k2, k3⟩ := cell4A XO.out
 obtain ⟨m0, m1, m2, m3⟩ := cell4A XQ.out
 go_wp2_with fail
 refine (rsame14_any _ _ _ _ w9 ⟨_, _, _, _, rfl, AO.out⟩ ⟨_, _, _, _, rfl, AQ.out⟩).mono ?_
 rintro e w10 ⟨rfl, b1⟩
 rw [eqB_true rfl]
 have BF := Lib.hid (B0.out.trans (b1.mono B0.out.size))
 clear b1
 go_wp2_with fail
 go_ret
 exact ⟨rfl, BF.out⟩
end Go.Proofs.YtneeocnjfnneoaaGreat
