/-
 The statements' plan, as they lay it.
 Conditions: none.
-/
import Derived.Test.YtemmgmjhomgbbaaGreatVGChk
import Derived.Test.YtemmgmjhomgbbaaGreatVGPlnRefD
import Derived.Test.YtemmgmjhomgbbaaGreatVGStaM
import Derived.Test.YtemmgmjhomgbbaaGreatVGStaMem
import Derived.Test.YtemmgmjhomgbbaaGreatVGPlnRefB
set_option linter.unusedVariables false
set_option linter.unusedSimpArgs false
set_option maxRecDepth 100000
namespace Go.Proofs.YtemmgmjhomgbbaaGreat
open Go.RowKit

/-- The statements' plan: two sections, a signal, a route. -/
def soPl (gs : List Sg) (f0 : List Jn) : Pl := ⟨1, 0, [(1, 0, [(0, 0), (2, 0)]), (2, 0, [(1, 1), (0, 0)])], [], gs, [⟨1, 1, 0, [2], [], f0, 3⟩]⟩
def soP : Pl := soPl [(1, 1, 1)] []
theorem sound_so : PlanSound soP := by decide +kernel
theorem restE_so : restE soP = 0 ∧ restV soP = restS soP := by
 have h : soundP soP = true := soundP_true sound_so
 exact ⟨by rw [restE, if_pos h], by rw [restV, if_pos h]⟩
theorem staE_so : staE soP (restS soP) = 0 := by
 have h : soundP soP = true := soundP_true sound_so
 rw [staE, if_pos h, stMay_iff.2 (rest_may sound_so)]
 rfl
/-- The literal's blocks, from s on, but the signals'; the flanks of its routes. -/
structure soAt (W : World) (s : Nat) (F0 : Value) : Prop where
 r0 : W.heap[s]? = some (.cells #[.int .i64 0, .int .i64 0, .int .i64 2, .int .i64 0] 98 (0, 0))
 r1 : W.heap[s + 1]? = some (.cells #[.int .i64 1, .int .i64 1, .int .i64 0, .int .i64 0] 98 (0, 0))
 r2 : W.heap[s + 2]? = some (.cells #[.int .i64 1, .int .i64 0, .slice (some ⟨s, 0, none⟩) 2 2, .int .i64 2, .int .i64 0, .slice (some ⟨s + 1, 0, none⟩) 2 2] 60 (0, 0))
 r4 : W.heap[s + 4]? = some (.cells #[.int .i64 2] 3 (0, 0))
 r5 : W.heap[s + 5]? = some (.cells #[.int .i64 1, .int .i64 1, .int .i64 0, .slice (some ⟨s + 4, 0, none⟩) 1 1, .slice none 0 0, F0, .int .i64 3] 64 (0, 0))
abbrev soV (s : Nat) (G : Value) : Value := .agg #[.int .i64 1, .int .i64 0, .slice (some ⟨s + 2, 0, none⟩) 2 2, .slice none 0 0, G, .slice (some ⟨s + 5, 0, none⟩) 1 1]
theorem soAt.below {W W' : World} {s : Nat} {F0 : Value} (h : soAt W s F0) (hb : Below W.heap.size W W') : soAt W' s F0 :=
 ⟨(hb.block _ (heap_lt h.r0)).trans h.r0, (hb.block _ (heap_lt h.r1)).trans h.r1, (hb.block _ (heap_lt h.r2)).trans h.r2, (hb.block _ (heap_lt h.r4)).trans h.r4, (hb.block _ (heap_lt h.r5)).trans h.r5⟩
theorem soAt.grown {W W' : World} {s : Nat} {F0 : Value} (h : soAt W s F0) (hg : W.grownBy W' (some (s + 3))) : soAt W' s F0 :=
 ⟨(hg.block _ (heap_lt h.r0) (fun e => by injection e with e; omega)).trans h.r0, (hg.block _ (heap_lt h.r1) (fun e => by injection e with e; omega)).trans h.r1, (hg.block _ (heap_lt h.r2) (fun e => by injection e with e; omega)).trans h.r2, (hg.block _ (heap_lt h.r4) (fun e => by injection e with e; omega)).trans h.r4, (hg.block _ (heap_lt h.r5) (fun e => by injection e with e; omega)).trans h.r5⟩
theorem soAt.plan {W : World} {s : Nat} {F0 G : Value} {f0 : List Jn} {gs : List Sg} (h : soAt W s F0) (hg : SigsIn W W.heap.size G gs) (h0 : JoinsIn W W.heap.size F0 f0) :
  PlanV W W.heap.size (soV s G) (soPl gs f0) := by
 have J0 : JoinsIn W W.heap.size (.slice (some ⟨s, 0, none⟩) 2 2) ([(0, 0), (2, 0)] : List Jn) := list_row (l := ([(0, 0), (2, 0)] : List Jn)) h.r0 (by first | decide | simp) (fun j hj => by
  match j, hj with
  | 0, _ => exact ⟨row_cj _ _ _ 0 _ h.r0 rfl, row_cj _ _ _ 1 _ h.r0 rfl⟩
  | 1, _ => exact ⟨row_cj _ _ _ 2 _ h.r0 rfl, row_cj _ _ _ 3 _ h.r0 rfl⟩)
 have J1 : JoinsIn W W.heap.size (.slice (some ⟨s + 1, 0, none⟩) 2 2) ([(1, 1), (0, 0)] : List Jn) := list_row (l := ([(1, 1), (0, 0)] : List Jn)) h.r1 (by first | decide | simp) (fun j hj => by
  match j, hj with
  | 0, _ => exact ⟨row_cj _ _ _ 0 _ h.r1 rfl, row_cj _ _ _ 1 _ h.r1 rfl⟩
  | 1, _ => exact ⟨row_cj _ _ _ 2 _ h.r1 rfl, row_cj _ _ _ 3 _ h.r1 rfl⟩)
 have SS : SectsIn W W.heap.size (.slice (some ⟨s + 2, 0, none⟩) 2 2) ([(1, 0, [(0, 0), (2, 0)]), (2, 0, [(1, 1), (0, 0)])] : List Sec) := list_row (l := ([(1, 0, [(0, 0), (2, 0)]), (2, 0, [(1, 1), (0, 0)])] : List Sec)) h.r2 (by first | decide | simp) (fun j hj => by
  match j, hj with
  | 0, _ => exact ⟨row_cj _ _ _ 0 _ h.r2 rfl, row_cj _ _ _ 1 _ h.r2 rfl, _, row_cj _ _ _ 2 _ h.r2 rfl, J0⟩
  | 1, _ => exact ⟨row_cj _ _ _ 3 _ h.r2 rfl, row_cj _ _ _ 4 _ h.r2 rfl, _, row_cj _ _ _ 5 _ h.r2 rfl, J1⟩)
 have PP : JoinsIn W W.heap.size (.slice none 0 0) ([] : List Jn) := ListIn.nil_
 have A0 : IntsIn W W.heap.size (.slice (some ⟨s + 4, 0, none⟩) 1 1) ([2] : List Int) := list_row (l := ([2] : List Int)) h.r4 (by first | decide | simp) (fun j hj => by
  match j, hj with
  | 0, _ => exact row_cj _ _ _ 0 _ h.r4 rfl)
 have RR : RoutesIn W W.heap.size (.slice (some ⟨s + 5, 0, none⟩) 1 1) ([⟨1, 1, 0, [2], [], f0, 3⟩] : List Rt) := list_row (l := ([⟨1, 1, 0, [2], [], f0, 3⟩] : List Rt)) h.r5 (by first | decide | simp) (fun j hj => by
  match j, hj with
  | 0, _ => exact ⟨row_cj _ _ _ 0 _ h.r5 rfl, row_cj _ _ _ 1 _ h.r5 rfl, row_cj _ _ _ 2 _ h.r5 rfl, row_cj _ _ _ 6 _ h.r5 rfl, _, _, _, row_cj _ _ _ 3 _ h.r5 rfl, row_cj _ _ _ 4 _ h.r5 rfl, row_cj _ _ _ 5 _ h.r5 rfl, ⟨A0, ListIn.nil_, h0⟩⟩)
 exact ⟨_, _, _, _, rfl, ⟨SS, PP, hg, RR⟩⟩
theorem so_sigs {W : World} {g : Nat} (h : W.heap[g]? = some (.cells #[.int .i64 1, .int .i64 1, .int .i64 1] 115 (0, 0))) : SigsOwn W g (.slice (some ⟨g, 0, none⟩) 1 1) ([(1, 1, 1)] : List Sg) :=
 ⟨[[.int .i64 1, .int .i64 1, .int .i64 1]], ⟨rfl, .inr ⟨g, _, _, rfl, Nat.le_refl _, h, Nat.le_refl _, by decide, rfl, rfl⟩⟩, rfl, by decide, by simp, fun j ys x h1 h2 => by
  match j, h1, h2 with
  | 0, h1, h2 => cases h1; cases h2; exact ⟨rfl, rfl, rfl⟩⟩
set_option maxHeartbeats 16000000 in
theorem so_at (w : World) : Calls Tryz.prog 36 #[] w fun e w' => ∃ s, e = .returned (soV s (.slice (some ⟨s + 3, 0, none⟩) 1 1)) ∧ soAt w' s (.slice none 0 0) ∧ w'.heap[s + 3]? = some (.cells #[.int .i64 1, .int .i64 1, .int .i64 1] 115 (0, 0)) ∧ w.heap.size < s ∧ Below w.heap.size w w' := by
 have hq0 := heap_alloc_self w (.cells #[.int .i64 0, .int .i64 0, .slice none 0 0, .slice none 0 0, .slice none 0 0, .slice none 0 0] 27)
 have hqb := below_new w (.cells #[.int .i64 0, .int .i64 0, .slice none 0 0, .slice none 0 0, .slice none 0 0, .slice none 0 0] 27)
 have hqs := heap_alloc_size w (.cells #[.int .i64 0, .int .i64 0, .slice none 0 0, .slice none 0 0, .slice none 0 0, .slice none 0 0] 27)
 go_enter Tryz.func36, Tryz.ntmps36
 go_upto_region 1 with fail
 generalize w.alloc (.cells #[.int .i64 0, .int .i64 0, .slice none 0 0, .slice none 0 0, .slice none 0 0, .slice none 0 0] 27) = q at hq0 hqb hqs ⊢
 have QX := Lib.hid hq0
 have QB := Lib.hid hqb
 have QS := Lib.hid hqs
 clear hq0 hqb hqs
 have h1 := heap_alloc_self q (.cells #[.int .i64 0, .int .i64 0, .int .i64 2, .int .i64 0] 98)
 have b1 := below_new q (.cells #[.int .i64 0, .int .i64 0, .int .i64 2, .int .i64 0] 98)
 have s1 := heap_alloc_size q (.cells #[.int .i64 0, .int .i64 0, .int .i64 2, .int .i64 0] 98)
 obtain ⟨w1, e1⟩ : ∃ x, x = q.alloc (.cells #[.int .i64 0, .int .i64 0, .int .i64 2, .int .i64 0] 98) := ⟨_, rfl⟩
 rw [← e1] at h1 b1 s1
 have h2 := heap_alloc_self w1 (.cells #[.int .i64 1, .int .i64 1, .int .i64 0, .int .i64 0] 98)
 have b2 := below_new w1 (.cells #[.int .i64 1, .int .i64 1, .int .i64 0, .int .i64 0] 98)
 have s2 := heap_alloc_size w1 (.cells #[.int .i64 1, .int .i64 1, .int .i64 0, .int .i64 0] 98)
 obtain ⟨w2, e2⟩ : ∃ x, x = w1.alloc (.cells #[.int .i64 1, .int .i64 1, .int .i64 0, .int .i64 0] 98) := ⟨_, rfl⟩
 rw [← e2] at h2 b2 s2
 have h3 := heap_alloc_self w2 (.cells #[.int .i64 1, .int .i64 0, .slice (some ⟨q.heap.size, 0, none⟩) 2 2, .int .i64 2, .int .i64 0, .slice (some ⟨q.heap.size + 1, 0, none⟩) 2 2] 60)
 have b3 := below_new w2 (.cells #[.int .i64 1, .int .i64 0, .slice (some ⟨q.heap.size, 0, none⟩) 2 2, .int .i64 2, .int .i64 0, .slice (some ⟨q.heap.size + 1, 0, none⟩) 2 2] 60)
 have s3 := heap_alloc_size w2 (.cells #[.int .i64 1, .int .i64 0, .slice (some ⟨q.heap.size, 0, none⟩) 2 2, .int .i64 2, .int .i64 0, .slice (some ⟨q.heap.size + 1, 0, none⟩) 2 2] 60)
 obtain ⟨w3, e3⟩ : ∃ x, x = w2.alloc (.cells #[.int .i64 1, .int .i64 0, .slice (some ⟨q.heap.size, 0, none⟩) 2 2, .int .i64 2, .int .i64 0, .slice (some ⟨q.heap.size + 1, 0, none⟩) 2 2] 60) := ⟨_, rfl⟩
 rw [← e3] at h3 b3 s3
 have h4 := heap_alloc_self w3 (.cells #[.int .i64 1, .int .i64 1, .int .i64 1] 115)
 have b4 := below_new w3 (.cells #[.int .i64 1, .int .i64 1, .int .i64 1] 115)
 have s4 := heap_alloc_size w3 (.cells #[.int .i64 1, .int .i64 1, .int .i64 1] 115)
 obtain ⟨w4, e4⟩ : ∃ x, x = w3.alloc (.cells #[.int .i64 1, .int .i64 1, .int .i64 1] 115) := ⟨_, rfl⟩
 rw [← e4] at h4 b4 s4
 have h5 := heap_alloc_self w4 (.cells #[.int .i64 2] 3)
 have b5 := below_new w4 (.cells #[.int .i64 2] 3)
 have s5 := heap_alloc_size w4 (.cells #[.int .i64 2] 3)
 obtain ⟨w5, e5⟩ : ∃ x, x = w4.alloc (.cells #[.int .i64 2] 3) := ⟨_, rfl⟩
 rw [← e5] at h5 b5 s5
 have h6 := heap_alloc_self w5 (.cells #[.int .i64 1, .int .i64 1, .int .i64 0, .slice (some ⟨q.heap.size + 4, 0, none⟩) 1 1, .slice none 0 0, .slice none 0 0, .int .i64 3] 64)
 have b6 := below_new w5 (.cells #[.int .i64 1, .int .i64 1, .int .i64 0, .slice (some ⟨q.heap.size + 4, 0, none⟩) 1 1, .slice none 0 0, .slice none 0 0, .int .i64 3] 64)
 have s6 := heap_alloc_size w5 (.cells #[.int .i64 1, .int .i64 1, .int .i64 0, .slice (some ⟨q.heap.size + 4, 0, none⟩) 1 1, .slice none 0 0, .slice none 0 0, .int .i64 3] 64)
 obtain ⟨w6, e6⟩ : ∃ x, x = w5.alloc (.cells #[.int .i64 1, .int .i64 1, .int .i64 0, .slice (some ⟨q.heap.size + 4, 0, none⟩) 1 1, .slice none 0 0, .slice none 0 0, .int .i64 3] 64) := ⟨_, rfl⟩
 rw [← e6] at h6 b6 s6
 have z1 : w1.heap.size = q.heap.size + 1 := by omega
 have z2 : w2.heap.size = q.heap.size + 2 := by omega
 have z3 : w3.heap.size = q.heap.size + 3 := by omega
 have z4 : w4.heap.size = q.heap.size + 4 := by omega
 have z5 : w5.heap.size = q.heap.size + 5 := by omega
 have z6 : w6.heap.size = q.heap.size + 6 := by omega
 have c6 := Below.refl w6.heap.size w6
 have c5 : Below w5.heap.size w5 w6 := b6.trans (c6.mono b6.size)
 have c4 : Below w4.heap.size w4 w6 := b5.trans (c5.mono b5.size)
 have c3 : Below w3.heap.size w3 w6 := b4.trans (c4.mono b4.size)
 have c2 : Below w2.heap.size w2 w6 := b3.trans (c3.mono b3.size)
 have c1 : Below w1.heap.size w1 w6 := b2.trans (c2.mono b2.size)
 have H1 : w6.heap[q.heap.size]? = some (.cells #[.int .i64 0, .int .i64 0, .int .i64 2, .int .i64 0] 98 (0, 0)) := by exact (c1.block _ (by omega)).trans h1
 have H2 : w6.heap[q.heap.size + 1]? = some (.cells #[.int .i64 1, .int .i64 1, .int .i64 0, .int .i64 0] 98 (0, 0)) := by rw [z1] at h2; exact (c2.block _ (by omega)).trans h2
 have H3 : w6.heap[q.heap.size + 2]? = some (.cells #[.int .i64 1, .int .i64 0, .slice (some ⟨q.heap.size, 0, none⟩) 2 2, .int .i64 2, .int .i64 0, .slice (some ⟨q.heap.size + 1, 0, none⟩) 2 2] 60 (0, 0)) := by rw [z2] at h3; exact (c3.block _ (by omega)).trans h3
 have H4 : w6.heap[q.heap.size + 3]? = some (.cells #[.int .i64 1, .int .i64 1, .int .i64 1] 115 (0, 0)) := by rw [z3] at h4; exact (c4.block _ (by omega)).trans h4
 have H5 : w6.heap[q.heap.size + 4]? = some (.cells #[.int .i64 2] 3 (0, 0)) := by rw [z4] at h5; exact (c5.block _ (by omega)).trans h5
 have H6 : w6.heap[q.heap.size + 5]? = some (.cells #[.int .i64 1, .int .i64 1, .int .i64 0, .slice (some ⟨q.heap.size + 4, 0, none⟩) 1 1, .slice none 0 0, .slice none 0 0, .int .i64 3] 64 (0, 0)) := by rw [z5] at h6; exact (c6.block _ (by omega)).trans h6
 have cq : Below q.heap.size q w6 := b1.trans (c1.mono b1.size)
 have H0 : w6.heap[w.heap.size]? = some (.cells #[.int .i64 0, .int .i64 0, .slice none 0 0, .slice none 0 0, .slice none 0 0, .slice none 0 0] 27 (0, 0)) := (cq.block _ (by have := QS.out; omega)).trans QX.out
 have hbq : Below w.heap.size w w6 := QB.out.trans (cq.mono QB.out.size)
 have H0' : ((((((q.alloc (.cells #[.int .i64 0, .int .i64 0, .int .i64 2, .int .i64 0] 98)).alloc (.cells #[.int .i64 1, .int .i64 1, .int .i64 0, .int .i64 0] 98)).alloc (.cells #[.int .i64 1, .int .i64 0, .slice (some ⟨q.heap.size, 0, none⟩) 2 2, .int .i64 2, .int .i64 0, .slice (some ⟨q.heap.size + 1, 0, none⟩) 2 2] 60)).alloc (.cells #[.int .i64 1, .int .i64 1, .int .i64 1] 115)).alloc (.cells #[.int .i64 2] 3)).alloc (.cells #[.int .i64 1, .int .i64 1, .int .i64 0, .slice (some ⟨q.heap.size + 4, 0, none⟩) 1 1, .slice none 0 0, .slice none 0 0, .int .i64 3] 64)).heap[w.heap.size]? = some (.cells #[.int .i64 0, .int .i64 0, .slice none 0 0, .slice none 0 0, .slice none 0 0, .slice none 0 0] 27 (0, 0)) := by rw [← e1, ← e2, ← e3, ← e4, ← e5, ← e6]; exact H0
 have HH0 := Lib.hid H0'
 have E : Hid (((((((q.alloc (.cells #[.int .i64 0, .int .i64 0, .int .i64 2, .int .i64 0] 98)).alloc (.cells #[.int .i64 1, .int .i64 1, .int .i64 0, .int .i64 0] 98)).alloc (.cells #[.int .i64 1, .int .i64 0, .slice (some ⟨q.heap.size, 0, none⟩) 2 2, .int .i64 2, .int .i64 0, .slice (some ⟨q.heap.size + 1, 0, none⟩) 2 2] 60)).alloc (.cells #[.int .i64 1, .int .i64 1, .int .i64 1] 115)).alloc (.cells #[.int .i64 2] 3)).alloc (.cells #[.int .i64 1, .int .i64 1, .int .i64 0, .slice (some ⟨q.heap.size + 4, 0, none⟩) 1 1, .slice none 0 0, .slice none 0 0, .int .i64 3] 64)) = w6) := Lib.hid (by rw [← e1, ← e2, ← e3, ← e4, ← e5, ← e6])
 have K1 := Lib.hid H1
 have K2 := Lib.hid H2
 have K3 := Lib.hid H3
 have K4 := Lib.hid H4
 have K5 := Lib.hid H5
 have K6 := Lib.hid H6
 have K0 := Lib.hid H0
 have KB := Lib.hid hbq
 clear H0 H0' hbq cq H1 H2 H3 H4 H5 H6 h1 b1 s1 z1 c1 e1 h2 b2 s2 z2 c2 e2 h3 b3 s3 z3 c3 e3 h4 b4 s4 z4 c4 e4 h5 b5 s5 z5 c5 e5 h6 b6 s6 z6 c6 e6
 go_wp2_with ((with_reducible show wpList _ _ _ (⟨none, _, _, _, _, _⟩ :: _) _ _); refine wpList_store_rowS rfl _ (.tmp 0) (.tmp 15) rfl w.heap.size rfl (c' := #[.int .i64 1, .int .i64 0, .slice (some ⟨q.heap.size + 2, 0, none⟩) 2 2, .slice none 0 0, .slice (some ⟨q.heap.size + 3, 0, none⟩) 1 1, .slice (some ⟨q.heap.size + 5, 0, none⟩) 1 1]) rfl HH0.out infoPlan6 rfl (by simp [Value.oneCell']) ?_; rw [E.out])
 have hg := grownBy_setRow w6 w.heap.size #[.int .i64 1, .int .i64 0, .slice (some ⟨q.heap.size + 2, 0, none⟩) 2 2, .slice none 0 0, .slice (some ⟨q.heap.size + 3, 0, none⟩) 1 1, .slice (some ⟨q.heap.size + 5, 0, none⟩) 1 1]
 have hneq : ∀ k, q.heap.size ≤ k → k ≠ w.heap.size := fun k hk => by have := QS.out; omega
 have KK : ∀ (b : Nat) (c : Array Value) (t : TypeId), q.heap.size ≤ b → w6.heap[b]? = some (.cells c t (0, 0)) → (w6.setRow w.heap.size #[.int .i64 1, .int .i64 0, .slice (some ⟨q.heap.size + 2, 0, none⟩) 2 2, .slice none 0 0, .slice (some ⟨q.heap.size + 3, 0, none⟩) 1 1, .slice (some ⟨q.heap.size + 5, 0, none⟩) 1 1]).heap[b]? = some (.cells c t (0, 0)) := fun b c t hb h => (hg.block b (heap_lt h) (fun e => hneq b hb (by injection e))).trans h
 refine bodyPost_ret (results_cell_row rfl _ _ w.heap.size 27 #[.int .i64 1, .int .i64 0, .slice (some ⟨q.heap.size + 2, 0, none⟩) 2 2, .slice none 0 0, .slice (some ⟨q.heap.size + 3, 0, none⟩) 1 1, .slice (some ⟨q.heap.size + 5, 0, none⟩) 1 1] (0, 0) _ rfl (setRow_heap _ _ _ _ _ _ K0.out) Tryz.underlying27 rfl infoPlan6) rfl ⟨_, rfl, ?_, ?_, by have := QS.out; omega, below_setRow KB.out (Nat.le_refl _) _⟩
 ·exact ⟨KK _ _ _ (by omega) K1.out, KK _ _ _ (by omega) K2.out, KK _ _ _ (by omega) K3.out, KK _ _ _ (by omega) K5.out, KK _ _ _ (by omega) K6.out⟩
 ·exact KK _ _ _ (by omega) K4.out
theorem so_any (w : World) : Calls Tryz.prog 36 #[] w fun e w' => ∃ v, e = .returned v ∧ PlanV w' w'.heap.size v soP ∧ Below w.heap.size w w' :=
 (so_at w).mono fun e w' ⟨s, h1, h2, h3, _, h5⟩ => ⟨_, h1, h2.plan ((so_sigs h3).in_ sigR_cells) ListIn.nil_, h5⟩

theorem infoSt15 : (Tryz.prog.info? 32).map (·.size) = some 3 := by kernel_rfl
theorem eqTrk (a b c d : Int) (w : World) : (Op.equalIn 10000 51 (.agg #[.int .i64 a, .int .u8 b]) (.agg #[.int .i64 c, .int .u8 d])).run Tryz.prog w = .ok ((a == c) && (b == d)) w := by
 have hagg : (isAgg 3).run Tryz.prog w = .ok false w := by
  unfold isAgg
  rw [Sem.run_bind, run_underlying Tryz.underlying3 w]
  simp
 have hagg8 : (isAgg 5).run Tryz.prog w = .ok false w := by
  unfold isAgg
  rw [Sem.run_bind, run_underlying Tryz.underlying5 w]
  simp
 rw [run_equalIn_agg w 9999 51 _ _ (by rw [Program.fieldsOf, Tryz.underlying51]) (by kernel_rfl)]
 simp only [Program.fieldsOf, Tryz.underlying51, Op.eqFields]
 have hi : ∀ x y : Int, (Op.equalIn 9999 3 (.int .i64 x) (.int .i64 y)).run Tryz.prog w = .ok (x == y) w := fun x y => run_equalIn_int w 9998 3 .i64 .i64 x y Tryz.underlying3
 have hi8 : ∀ x y : Int, (Op.equalIn 9999 5 (.int .u8 x) (.int .u8 y)).run Tryz.prog w = .ok (x == y) w := fun x y => run_equalIn_int w 9998 5 .u8 .u8 x y Tryz.underlying5
 by_cases h1 : a = c <;> by_cases h2 : b = d <;> simp [part, Sem.run_bind, Sem.run_ite, hagg, hagg8, hi, hi8, h1, h2]
set_option maxHeartbeats 16000000 in
theorem alive15 (hc : StaSaid) (w : World) : Calls Tryz.prog 19 #[] w fun e w' => e = .returned (.bool true) ∧ Below w.heap.size w w' := by
 go_enter Tryz.func19, Tryz.ntmps19
 go_wp2_with fail
 refine (so_any w).mono ?_
 rintro e w1 ⟨pv, rfl, hpv, b1⟩
 have BQ := Lib.hid b1
 clear b1
 go_wp2_with fail
 refine (hc.at_ _ soP w1 hpv).mono ?_
 rintro e wB ⟨u0, u1, u2, rfl, ho, bN⟩
 rw [restE_so.2] at ho
 rw [restE_so.1]
 have hi := ho.in_
 obtain ⟨S0, Sc0, rfl⟩ := st_sl hi.tr
 obtain ⟨S1, Sc1, rfl⟩ := st_sl hi.sw
 obtain ⟨S2, Sc2, rfl⟩ := st_sl hi.lk
 obtain ⟨n0, hn0⟩ : ∃ z_, z_ = (restS soP).tr.length := ⟨_, rfl⟩
 rw [← hn0] at hi
 rw [← hn0]
 obtain ⟨n1, hn1⟩ : ∃ z_, z_ = (restS soP).sw.length := ⟨_, rfl⟩
 rw [← hn1] at hi
 rw [← hn1]
 obtain ⟨n2, hn2⟩ : ∃ z_, z_ = (restS soP).lk.length := ⟨_, rfl⟩
 rw [← hn2] at hi
 rw [← hn2]
 have N1 := Lib.hid (And.intro hn0 (And.intro hn1 hn2))
 clear ho hn0 hn1 hn2
 have tB := BQ.out.trans (bN.mono BQ.out.size)
 clear BQ bN
 have BQ := Lib.hid tB
 clear tB
 go_upto_region 2 with ((with_reducible show wpList _ _ _ (⟨none, .store _ _ _, _, _, _, _⟩ :: _) _ _); refine wpList_store_rowS rfl _ (.tmp 1) (.tmp 6) rfl wB.heap.size rfl (c' := #[.slice S0 n0 Sc0, .slice S1 n1 Sc1, .slice S2 n2 Sc2]) rfl (heap_alloc_self wB (.cells #[.slice none 0 0, .slice none 0 0, .slice none 0 0] 32)) infoSt15 rfl (by simp [Value.oneCell']) ?_)
 rw [World.setRow_alloc_new]
 have hx1 := heap_alloc_self wB (.cells #[.slice S0 n0 Sc0, .slice S1 n1 Sc1, .slice S2 n2 Sc2] 32)
 have hb1 := below_new wB (.cells #[.slice S0 n0 Sc0, .slice S1 n1 Sc1, .slice S2 n2 Sc2] 32)
 have hi2 := (hi.below hb1).more hb1.size
 generalize wB.alloc (.cells #[.slice S0 n0 Sc0, .slice S1 n1 Sc1, .slice S2 n2 Sc2] 32) = w2 at hb1 hx1 hi2 ⊢
 obtain ⟨p1, hp1⟩ : ∃ n, n = wB.heap.size := ⟨_, rfl⟩
 rw [← hp1] at hx1 ⊢
 have X1 := Lib.hid hx1
 have A1 := Lib.hid hi2
 clear hx1 hp1 hi hi2
 have tB := BQ.out.trans (hb1.mono BQ.out.size)
 clear BQ hb1
 have BQ := Lib.hid tB
 clear tB
 clear hpv
 obtain ⟨bT, oT, hT, hbT, ht0, ht1, -⟩ := A1.out.tr.at (j := 0) (by decide)
 obtain ⟨bL, oL, hL, hbL, -, hl1, -⟩ := A1.out.lk.at (j := 0) (by decide)
 have e0 : n0 = 2 := N1.out.1
 have e2 : n2 = 1 := N1.out.2.2
 subst hT hL e0 e2
 have HT := Lib.hid hbT
 have HL := Lib.hid hbL
 have T0 : Hid (w2.cell? ⟨bT, oT, none⟩ = some (.int .i64 1)) := Lib.hid (by simpa [restS, soP, soPl] using ht0)
 have T1 : Hid (w2.cell? ⟨bT, oT + 1, none⟩ = some (.int .u8 2)) := Lib.hid (by simpa [restS, soP, soPl] using ht1)
 have L1 : Hid (w2.cell? ⟨bL, oL + 1, none⟩ = some (.int .u8 0)) := Lib.hid (by simpa [restS, soP, soPl] using hl1)
 clear hbT hbL ht0 ht1 hl1 N1
 refine wp_region_held_drew (S := fun v => Below w2.heap.size w2 v) (by kernel_rfl) (Below.refl w2.heap.size w2).drew (fun hHeld => ?_)
 refine tk 0 hHeld ?_;refine tk 1 hHeld ?_;refine tk 2 hHeld ?_;refine tk 3 hHeld ?_;refine tkc 4 hHeld (fun w' hSw => cell3_of ((hSw.block _ (heap_lt X1.out)).trans X1.out)) ?_;refine tk 5 hHeld ?_;refine tk 6 hHeld ?_;refine tk 7 hHeld ?_;refine tk 8 hHeld ?_;refine tk 9 hHeld ?_;refine tkc 10 hHeld (fun w' hSw => cell3_of ((hSw.block _ (heap_lt X1.out)).trans X1.out)) ?_;refine tk 11 hHeld ?_
 refine wpAnyH_take (i := 12) (v := ?_) rfl (by kernel_rfl) (by kernel_rfl) (by kernel_rfl) (fun _ _ _ h => h) (Or.inl ⟨by rfl, ?_⟩) hHeld ?_
 rotate_left
 ·intro w' hSw; have ct0 := (hSw.cell (p := ⟨bT, oT, none⟩) HT.out).trans T0.out; have ct1 := (hSw.cell (p := ⟨bT, oT + 1, none⟩) HT.out).trans T1.out; go_simp; try with_reducible rfl
 simp only [zn, Act.put]
 refine tk 13 hHeld ?_;refine tkc 14 hHeld (fun w' hSw => eqTrk 1 2 1 2) ?_;refine tk 15 hHeld ?_;refine tk 16 hHeld ?_;refine tk 17 hHeld ?_;refine tkc 18 hHeld (fun w' hSw => cell3_of ((hSw.block _ (heap_lt X1.out)).trans X1.out)) ?_;refine tk 19 hHeld ?_;refine tk 20 hHeld ?_;refine tk 21 hHeld ?_;refine tk 22 hHeld ?_;refine tk 23 hHeld ?_;refine tkc 24 hHeld (fun w' hSw => cell3_of ((hSw.block _ (heap_lt X1.out)).trans X1.out)) ?_;refine tk 25 hHeld ?_;refine tk 26 hHeld ?_;refine tkc 27 hHeld (fun w' hSw => (hSw.cell (p := ⟨bL, oL + 1, none⟩) HL.out).trans L1.out) ?_;refine tk 28 hHeld ?_;refine tk 29 hHeld ?_;refine tk 30 hHeld ?_;refine tkc 32 hHeld (fun w' hSw => cell3_of ((hSw.block _ (heap_lt X1.out)).trans X1.out)) ?_
 have tb := (Below.refl w2.heap.size w2).drew
 generalize w2.drew = q0 at tb hHeld ⊢
 have HB := Lib.hid tb
 clear tb
 refine tkr 31 (fun K hK => ?_)
 rw [if_pos (by rfl)]
 go_simp
 refine (so_any q0).mono ?_
 rintro e q1 ⟨pv, rfl, hpv, b⟩
 have HB1 := Lib.hid (HB.out.trans (b.mono HB.out.size))
 have HPV := Lib.hid hpv
 clear b hpv HB
 try go_wp2_with fail
 refine hK.out _ _ ?_ fun hHeld => ?_;exact HB1.out;clear hK K;try simp only [zn, Act.put]
 refine tkr 33 (fun K hK => ?_)
 rw [if_pos (by rfl)]
 go_simp
 refine (hc.check _ _ soP (restS soP) q1 HPV.out ⟨_, _, _, rfl, (A1.out.below HB1.out).more HB1.out.size⟩).mono ?_
 rintro e q2 ⟨rfl, b⟩
 rw [staE_so]
 have HB2 := Lib.hid (HB1.out.trans (b.mono HB1.out.size))
 clear b HB1
 try go_wp2_with fail
 refine hK.out _ _ ?_ fun hHeld => ?_;exact HB2.out;clear hK K;try simp only [zn, Act.put]
 refine tk 34 hHeld ?_;refine tk 35 hHeld ?_;refine tk 36 hHeld ?_
 refine wpAnyH_done (by kernel_rfl) ?_ _
 have BF := Lib.hid (BQ.out.trans (HB2.out.mono BQ.out.size))
 go_wp2_with fail
 go_ret
 exact ⟨rfl, BF.out⟩
end Go.Proofs.YtemmgmjhomgbbaaGreat
