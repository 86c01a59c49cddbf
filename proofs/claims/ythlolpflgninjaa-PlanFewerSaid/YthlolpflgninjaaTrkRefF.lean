/-
  The document's own functions Same and SameAll of package track, at sections that read alike.
  Conditions: none.
-/
import Derived.Test.YthlolpflgninjaaTrkRefE
set_option linter.unusedVariables false
set_option linter.unusedSimpArgs false
set_option maxRecDepth 100000
namespace Go.Proofs.Ythlolpflgninjaa
open Go.RowKit
set_option maxHeartbeats 4000000 in
theorem rsamesec_any (v y : Value) (s : Sec) (w : World) (h : SecV w w.heap.size v s) (h' : SecV w w.heap.size y s) :
    Calls Try.prog 79 #[v, y] w fun e w' => e = .returned (.bool true) ∧ Below w.heap.size w w' := by
  obtain ⟨u, rfl, hu⟩ := h
  obtain ⟨u', rfl, hu'⟩ := h'
  have HU := Lib.hid hu
  have HU' := Lib.hid hu'
  obtain ⟨A, c, rfl, h1, h2⟩ := hu.slice
  obtain ⟨A', c', rfl, -, -⟩ := hu'.slice
  obtain ⟨id, pt, l⟩ := s
  dsimp only at h1 HU HU' ⊢
  obtain ⟨n, hn⟩ : ∃ n, n = l.length := ⟨_, rfl⟩
  have hnm : n ≤ 9223372036854775807 := by unfold maxLen at h2; omega
  have HN := Lib.hid hn
  rw [← hn] at HU HU' ⊢
  clear hu hu' hn h1 h2
  have hq := two_boxes w (.cells #[.int .i64 id, .int .i64 pt, .slice A n c] 64) (.cells #[.int .i64 id, .int .i64 pt, .slice A' n c'] 64)
  go_enter Try.func79, Try.ntmps79
  go_upto_region 1 with fail
  generalize (w.alloc (.cells #[.int .i64 id, .int .i64 pt, .slice A n c] 64)).alloc (.cells #[.int .i64 id, .int .i64 pt, .slice A' n c'] 64) = q at hq ⊢
  obtain ⟨q0, q1, qb⟩ := hq
  obtain ⟨k0, k1, k2⟩ := cell3_of q0
  obtain ⟨m0, m1, m2⟩ := cell3_of q1
  have X0' := Lib.hid q0
  have X1' := Lib.hid q1
  have QB := Lib.hid qb
  clear q0 q1 qb
  go_wp2_with fail
  clear k0 k1 k2 m0 m1 m2
  go_loopw [5] (fun s5 wr => ∃ i : Nat, i ≤ n ∧ s5 = .int .i64 i ∧ wr.heap[w.heap.size]? = some (.cells #[.int .i64 id, .int .i64 pt, .slice A n c] 64 (0, 0)) ∧ wr.heap[w.heap.size + 1]? = some (.cells #[.int .i64 id, .int .i64 pt, .slice A' n c'] 64 (0, 0)) ∧ Below w.heap.size w wr) (fun s5 _ => n - (intOf s5).toNat)
  case atStart => exact ⟨0, by omega, by go_num, X0'.out, X1'.out, QB.out⟩
  case round =>
    obtain ⟨i, hi, rfl, hx0, hx1, hb⟩ := hrel
    have X0 := Lib.hid hx0
    have X1 := Lib.hid hx1
    have BW := Lib.hid hb
    obtain ⟨k0, k1, k2⟩ := cell3_of hx0
    clear hx0 hx1 hb
    by_cases hlt : i < n
    · have hlt' : (i : Int) < n := by omega
      have hir : i < l.length := by rw [← HN.out]; exact hlt
      obtain ⟨ba, oa, rfl, hba, hca0, hca1⟩ := ((HU.out.below joinR BW.out).more joinR BW.out.size).at hir
      obtain ⟨bb, ob, rfl, hbb, hcb0, hcb1⟩ := ((HU'.out.below joinR BW.out).more joinR BW.out.size).at hir
      obtain ⟨a, b, hab⟩ : ∃ a b, l[i] = (a, b) := ⟨_, _, rfl⟩
      rw [hab] at hca0 hca1 hcb0 hcb1
      dsimp only at hca0 hca1 hcb0 hcb1
      have LA := Lib.hid hba
      have LB := Lib.hid hbb
      have CA0 : Hid (wr.cell? ⟨ba, oa + i * 2, none⟩ = some (.int .i64 a)) := Lib.hid hca0
      have CA1 : Hid (wr.cell? ⟨ba, oa + i * 2 + 1, none⟩ = some (.int .i64 b)) := Lib.hid hca1
      have CB0 : Hid (wr.cell? ⟨bb, ob + i * 2, none⟩ = some (.int .i64 a)) := Lib.hid hcb0
      have CB1 : Hid (wr.cell? ⟨bb, ob + i * 2 + 1, none⟩ = some (.int .i64 b)) := Lib.hid hcb1
      have BD : Hid (Below w.heap.size w wr.drew) := Lib.hid BW.out.drew
      have X0D : Hid (wr.drew.heap[w.heap.size]? = some (.cells #[.int .i64 id, .int .i64 pt, .slice (some ⟨ba, oa, none⟩) n c] 64 (0, 0))) := Lib.hid X0.out
      have X1D : Hid (wr.drew.heap[w.heap.size + 1]? = some (.cells #[.int .i64 id, .int .i64 pt, .slice (some ⟨bb, ob, none⟩) n c'] 64 (0, 0))) := Lib.hid X1.out
      clear hba hbb hca0 hca1 hcb0 hcb1 hab
      go_wp2_with fail
      refine wp_region_held_drew (S := fun v => Below wr.heap.size wr v) (by kernel_rfl) ((Below.refl wr.heap.size wr).drew) (fun hHeld => ?_)
      refine wpAnyH_take (i := 0) (v := ?_) rfl (by kernel_rfl) (by kernel_rfl) (by kernel_rfl) (fun _ _ _ h => h) (Or.inl ⟨by rfl, ?_⟩) hHeld ?_
      rotate_left
      · intro w' hSw; go_simp; try with_reducible rfl
      simp only [List.getElem_toArray, List.getElem_cons_succ, List.getElem_cons_zero, Act.put, List.setIfInBounds_toArray, List.set_cons_zero, List.set_cons_succ]
      refine wpAnyH_take (i := 1) (v := ?_) rfl (by kernel_rfl) (by kernel_rfl) (by kernel_rfl) (fun _ _ _ h => h) (Or.inl ⟨by rfl, ?_⟩) hHeld ?_
      rotate_left
      · intro w' hSw; obtain ⟨cu0, cu1, cu2⟩ := cell3_of ((hSw.block _ (heap_lt X0.out)).trans X0.out); go_simp; try with_reducible rfl
      simp only [List.getElem_toArray, List.getElem_cons_succ, List.getElem_cons_zero, Act.put, List.setIfInBounds_toArray, List.set_cons_zero, List.set_cons_succ]
      refine wpAnyH_take (i := 2) (v := ?_) rfl (by kernel_rfl) (by kernel_rfl) (by kernel_rfl) (fun _ _ _ h => h) (Or.inl ⟨by rfl, ?_⟩) hHeld ?_
      rotate_left
      · intro w' hSw; go_simp; try with_reducible rfl
      simp only [List.getElem_toArray, List.getElem_cons_succ, List.getElem_cons_zero, Act.put, List.setIfInBounds_toArray, List.set_cons_zero, List.set_cons_succ]
      refine wpAnyH_take (i := 3) (v := ?_) rfl (by kernel_rfl) (by kernel_rfl) (by kernel_rfl) (fun _ _ _ h => h) (Or.inl ⟨by rfl, ?_⟩) hHeld ?_
      rotate_left
      · intro w' hSw; go_simp; try with_reducible rfl
      simp only [List.getElem_toArray, List.getElem_cons_succ, List.getElem_cons_zero, Act.put, List.setIfInBounds_toArray, List.set_cons_zero, List.set_cons_succ]
      refine wpAnyH_take (i := 4) (v := ?_) rfl (by kernel_rfl) (by kernel_rfl) (by kernel_rfl) (fun _ _ _ h => h) (Or.inl ⟨by rfl, ?_⟩) hHeld ?_
      rotate_left
      · intro w' hSw; have ca := (hSw.cell (p := ⟨ba, oa + i * 2, none⟩) LA.out).trans CA0.out; have cb := (hSw.cell (p := ⟨ba, oa + i * 2 + 1, none⟩) LA.out).trans CA1.out; go_simp; try with_reducible rfl
      simp only [List.getElem_toArray, List.getElem_cons_succ, List.getElem_cons_zero, Act.put, List.setIfInBounds_toArray, List.set_cons_zero, List.set_cons_succ]
      refine wpAnyH_take (i := 5) (v := ?_) rfl (by kernel_rfl) (by kernel_rfl) (by kernel_rfl) (fun _ _ _ h => h) (Or.inl ⟨by rfl, ?_⟩) hHeld ?_
      rotate_left
      · intro w' hSw; go_simp; try with_reducible rfl
      simp only [List.getElem_toArray, List.getElem_cons_succ, List.getElem_cons_zero, Act.put, List.setIfInBounds_toArray, List.set_cons_zero, List.set_cons_succ]
      refine wpAnyH_take (i := 6) (v := ?_) rfl (by kernel_rfl) (by kernel_rfl) (by kernel_rfl) (fun _ _ _ h => h) (Or.inl ⟨by rfl, ?_⟩) hHeld ?_
      rotate_left
      · intro w' hSw; obtain ⟨cv0, cv1, cv2⟩ := cell3_of ((hSw.block _ (heap_lt X1.out)).trans X1.out); go_simp; try with_reducible rfl
      simp only [List.getElem_toArray, List.getElem_cons_succ, List.getElem_cons_zero, Act.put, List.setIfInBounds_toArray, List.set_cons_zero, List.set_cons_succ]
      refine wpAnyH_take (i := 7) (v := ?_) rfl (by kernel_rfl) (by kernel_rfl) (by kernel_rfl) (fun _ _ _ h => h) (Or.inl ⟨by rfl, ?_⟩) hHeld ?_
      rotate_left
      · intro w' hSw; go_simp; try with_reducible rfl
      simp only [List.getElem_toArray, List.getElem_cons_succ, List.getElem_cons_zero, Act.put, List.setIfInBounds_toArray, List.set_cons_zero, List.set_cons_succ]
      refine wpAnyH_take (i := 8) (v := ?_) rfl (by kernel_rfl) (by kernel_rfl) (by kernel_rfl) (fun _ _ _ h => h) (Or.inl ⟨by rfl, ?_⟩) hHeld ?_
      rotate_left
      · intro w' hSw; go_simp; try with_reducible rfl
      simp only [List.getElem_toArray, List.getElem_cons_succ, List.getElem_cons_zero, Act.put, List.setIfInBounds_toArray, List.set_cons_zero, List.set_cons_succ]
      refine wpAnyH_take (i := 9) (v := ?_) rfl (by kernel_rfl) (by kernel_rfl) (by kernel_rfl) (fun _ _ _ h => h) (Or.inl ⟨by rfl, ?_⟩) hHeld ?_
      rotate_left
      · intro w' hSw; have ca := (hSw.cell (p := ⟨bb, ob + i * 2, none⟩) LB.out).trans CB0.out; have cb := (hSw.cell (p := ⟨bb, ob + i * 2 + 1, none⟩) LB.out).trans CB1.out; go_simp; try with_reducible rfl
      simp only [List.getElem_toArray, List.getElem_cons_succ, List.getElem_cons_zero, Act.put, List.setIfInBounds_toArray, List.set_cons_zero, List.set_cons_succ]
      refine wpAnyH_take (i := 10) (v := ?_) rfl (by kernel_rfl) (by kernel_rfl) (by kernel_rfl) (fun _ _ _ h => h) (Or.inl ⟨by rfl, ?_⟩) hHeld ?_
      rotate_left
      · intro w' hSw; go_simp; try with_reducible rfl
      simp only [List.getElem_toArray, List.getElem_cons_succ, List.getElem_cons_zero, Act.put, List.setIfInBounds_toArray, List.set_cons_zero, List.set_cons_succ]
      refine wpAnyH_done (by kernel_rfl) ?_ _
      go_wp2_with fail
      go_roundw
      case measure => simp [intOf]; omega
      case rel => exact ⟨i + 1, by omega, by go_num, X0D.out, X1D.out, BD.out⟩
    · obtain rfl : i = n := by omega
      have hlt' : ¬ (i : Int) < i := by omega
      go_wp2_with fail
      go_ret
      exact ⟨rfl, BW.out⟩

set_option maxHeartbeats 4000000 in
theorem rsameall_any (v y : Value) (l : List Sec) (w : World) (h : SectsIn w w.heap.size v l) (h' : SectsIn w w.heap.size y l) :
    Calls Try.prog 47 #[v, y] w fun e w' => e = .returned (.bool true) ∧ Below w.heap.size w w' := by
  have HU := Lib.hid h
  have HU' := Lib.hid h'
  obtain ⟨A, c, rfl, h1, h2⟩ := h.slice
  obtain ⟨A', c', rfl, -, -⟩ := h'.slice
  obtain ⟨n, hn⟩ : ∃ n, n = l.length := ⟨_, rfl⟩
  have hnm : n ≤ 9223372036854775807 := by unfold maxLen at h2; omega
  have HN := Lib.hid hn
  rw [← hn] at HU HU' ⊢
  clear h h' hn h1 h2
  go_enter Try.func47, Try.ntmps47
  go_wp2_with fail
  go_loopw [5] (fun s5 wr => ∃ i : Nat, i ≤ n ∧ s5 = .int .i64 i ∧ Below w.heap.size w wr) (fun s5 _ => n - (intOf s5).toNat)
  case atStart => exact ⟨0, by omega, by go_num, Below.refl _ _⟩
  case round =>
    obtain ⟨i, hi, rfl, hb⟩ := hrel
    have BW := Lib.hid hb
    clear hb
    by_cases hlt : i < n
    · have hlt' : (i : Int) < n := by omega
      have hir : i < l.length := by rw [← HN.out]; exact hlt
      obtain ⟨ba, oa, rfl, hba, hca0, hca1, ua, hca2, hua⟩ := ((HU.out.below secR_ BW.out).more secR_ BW.out.size).at hir
      obtain ⟨bb, ob, rfl, hbb, hcb0, hcb1, ub, hcb2, hub⟩ := ((HU'.out.below secR_ BW.out).more secR_ BW.out.size).at hir
      obtain ⟨s, hs⟩ : ∃ s, s = l[i] := ⟨_, rfl⟩
      rw [← hs] at hca0 hca1 hua hcb0 hcb1 hub
      obtain ⟨Aa, ca, rfl, -, -⟩ := hua.slice
      obtain ⟨Ab, cb, rfl, -, -⟩ := hub.slice
      have LA := Lib.hid hba
      have LB := Lib.hid hbb
      have CA0 : Hid (wr.cell? ⟨ba, oa + i * 3, none⟩ = some (.int .i64 s.1)) := Lib.hid hca0
      have CA1 : Hid (wr.cell? ⟨ba, oa + i * 3 + 1, none⟩ = some (.int .i64 s.2.1)) := Lib.hid hca1
      have CA2 : Hid (wr.cell? ⟨ba, oa + i * 3 + 2, none⟩ = some (.slice Aa s.2.2.length ca)) := Lib.hid hca2
      have CB0 : Hid (wr.cell? ⟨bb, ob + i * 3, none⟩ = some (.int .i64 s.1)) := Lib.hid hcb0
      have CB1 : Hid (wr.cell? ⟨bb, ob + i * 3 + 1, none⟩ = some (.int .i64 s.2.1)) := Lib.hid hcb1
      have CB2 : Hid (wr.cell? ⟨bb, ob + i * 3 + 2, none⟩ = some (.slice Ab s.2.2.length cb)) := Lib.hid hcb2
      have SVA : Hid (SecV wr wr.heap.size (.agg #[.int .i64 s.1, .int .i64 s.2.1, .slice Aa s.2.2.length ca]) s) := Lib.hid ⟨_, rfl, hua⟩
      have SVB : Hid (SecV wr wr.heap.size (.agg #[.int .i64 s.1, .int .i64 s.2.1, .slice Ab s.2.2.length cb]) s) := Lib.hid ⟨_, rfl, hub⟩
      clear hba hbb hca0 hca1 hca2 hcb0 hcb1 hcb2 hua hub hs
      go_wp2_with fail
      refine wp_region_held_drew (S := fun v => Below wr.heap.size wr v) (by kernel_rfl) ((Below.refl wr.heap.size wr).drew) (fun hHeld => ?_)
      refine wpAnyH_take (i := 0) (v := ?_) rfl (by kernel_rfl) (by kernel_rfl) (by kernel_rfl) (fun _ _ _ h => h) (Or.inl ⟨by rfl, ?_⟩) hHeld ?_
      rotate_left
      · intro w' hSw; go_simp; try with_reducible rfl
      simp only [List.getElem_toArray, List.getElem_cons_succ, List.getElem_cons_zero, Act.put, List.setIfInBounds_toArray, List.set_cons_zero, List.set_cons_succ]
      refine wpAnyH_take (i := 1) (v := ?_) rfl (by kernel_rfl) (by kernel_rfl) (by kernel_rfl) (fun _ _ _ h => h) (Or.inl ⟨by rfl, ?_⟩) hHeld ?_
      rotate_left
      · intro w' hSw; go_simp; try with_reducible rfl
      simp only [List.getElem_toArray, List.getElem_cons_succ, List.getElem_cons_zero, Act.put, List.setIfInBounds_toArray, List.set_cons_zero, List.set_cons_succ]
      refine wpAnyH_take (i := 2) (v := ?_) rfl (by kernel_rfl) (by kernel_rfl) (by kernel_rfl) (fun _ _ _ h => h) (Or.inl ⟨by rfl, ?_⟩) hHeld ?_
      rotate_left
      · intro w' hSw; go_simp; try with_reducible rfl
      simp only [List.getElem_toArray, List.getElem_cons_succ, List.getElem_cons_zero, Act.put, List.setIfInBounds_toArray, List.set_cons_zero, List.set_cons_succ]
      refine wpAnyH_take (i := 3) (v := ?_) rfl (by kernel_rfl) (by kernel_rfl) (by kernel_rfl) (fun _ _ _ h => h) (Or.inl ⟨by rfl, ?_⟩) hHeld ?_
      rotate_left
      · intro w' hSw; have ca := (hSw.cell (p := ⟨ba, oa + i * 3, none⟩) LA.out).trans CA0.out; have cb := (hSw.cell (p := ⟨ba, oa + i * 3 + 1, none⟩) LA.out).trans CA1.out; have cc := (hSw.cell (p := ⟨ba, oa + i * 3 + 2, none⟩) LA.out).trans CA2.out; go_simp; try with_reducible rfl
      simp only [List.getElem_toArray, List.getElem_cons_succ, List.getElem_cons_zero, Act.put, List.setIfInBounds_toArray, List.set_cons_zero, List.set_cons_succ]
      refine wpAnyH_take (i := 4) (v := ?_) rfl (by kernel_rfl) (by kernel_rfl) (by kernel_rfl) (fun _ _ _ h => h) (Or.inl ⟨by rfl, ?_⟩) hHeld ?_
      rotate_left
      · intro w' hSw; go_simp; try with_reducible rfl
      simp only [List.getElem_toArray, List.getElem_cons_succ, List.getElem_cons_zero, Act.put, List.setIfInBounds_toArray, List.set_cons_zero, List.set_cons_succ]
      refine wpAnyH_take (i := 5) (v := ?_) rfl (by kernel_rfl) (by kernel_rfl) (by kernel_rfl) (fun _ _ _ h => h) (Or.inl ⟨by rfl, ?_⟩) hHeld ?_
      rotate_left
      · intro w' hSw; go_simp; try with_reducible rfl
      simp only [List.getElem_toArray, List.getElem_cons_succ, List.getElem_cons_zero, Act.put, List.setIfInBounds_toArray, List.set_cons_zero, List.set_cons_succ]
      refine wpAnyH_take (i := 6) (v := ?_) rfl (by kernel_rfl) (by kernel_rfl) (by kernel_rfl) (fun _ _ _ h => h) (Or.inl ⟨by rfl, ?_⟩) hHeld ?_
      rotate_left
      · intro w' hSw; go_simp; try with_reducible rfl
      simp only [List.getElem_toArray, List.getElem_cons_succ, List.getElem_cons_zero, Act.put, List.setIfInBounds_toArray, List.set_cons_zero, List.set_cons_succ]
      refine wpAnyH_take (i := 7) (v := ?_) rfl (by kernel_rfl) (by kernel_rfl) (by kernel_rfl) (fun _ _ _ h => h) (Or.inl ⟨by rfl, ?_⟩) hHeld ?_
      rotate_left
      · intro w' hSw; have ca := (hSw.cell (p := ⟨bb, ob + i * 3, none⟩) LB.out).trans CB0.out; have cb := (hSw.cell (p := ⟨bb, ob + i * 3 + 1, none⟩) LB.out).trans CB1.out; have cc := (hSw.cell (p := ⟨bb, ob + i * 3 + 2, none⟩) LB.out).trans CB2.out; go_simp; try with_reducible rfl
      simp only [List.getElem_toArray, List.getElem_cons_succ, List.getElem_cons_zero, Act.put, List.setIfInBounds_toArray, List.set_cons_zero, List.set_cons_succ]
      refine wpAnyH_ready (rs := [8]) (by kernel_rfl) (by simp) ?_
      refine AllReadyH.cons rfl (fun K hK => ?_) AllReadyH.nil
      go_simp
      refine (rsamesec_any _ _ s wr.drew (SVA.out.below (Below.refl _ wr).drew) (SVB.out.below (Below.refl _ wr).drew)).mono ?_
      rintro e w2 ⟨rfl, b2⟩
      have B2 := Lib.hid ((Below.refl wr.heap.size wr).drew.trans b2)
      clear b2
      try go_wp2_with fail
      refine hK.out _ _ ?_ (fun hHeld => ?_)
      · exact B2.out
      clear hK K
      try simp only [List.getElem_toArray, List.getElem_cons_succ, List.getElem_cons_zero, Act.put, List.setIfInBounds_toArray, List.set_cons_zero, List.set_cons_succ]
      refine wpAnyH_take (i := 9) (v := ?_) rfl (by kernel_rfl) (by kernel_rfl) (by kernel_rfl) (fun _ _ _ h => h) (Or.inl ⟨by rfl, ?_⟩) hHeld ?_
      rotate_left
      · intro w' hSw; go_simp; try with_reducible rfl
      simp only [List.getElem_toArray, List.getElem_cons_succ, List.getElem_cons_zero, Act.put, List.setIfInBounds_toArray, List.set_cons_zero, List.set_cons_succ]
      refine wpAnyH_done (by kernel_rfl) ?_ _
      have BN := Lib.hid (BW.out.trans (B2.out.mono BW.out.size))
      go_wp2_with fail
      go_roundw
      case measure => simp [intOf]; omega
      case rel => exact ⟨i + 1, by omega, by go_num, BN.out⟩
    · obtain rfl : i = n := by omega
      have hlt' : ¬ (i : Int) < i := by omega
      go_wp2_with fail
      go_ret
      exact ⟨rfl, BW.out⟩
end Go.Proofs.Ythlolpflgninjaa
