/-
  A disk's copy, and whether two disks are the same, as the program makes and asks it.
  Conditions: the copy: at most 1,000 sectors and writes, none of more than 1,000,000 bytes.
-/
import Derived.Test.YtdjoflhcagfmiaaDevCopied
set_option linter.unusedVariables false
set_option linter.unusedSimpArgs false
set_option maxRecDepth 100000
namespace Go.Proofs.Ytdjoflhcagfmiaa
open Go.RowKit

theorem secs_slice {W : World} {lo : Nat} {v : Value} {ss : List Bs} (h : SecsAt W lo v ss) : ∃ A c, v = .slice A ss.length c := by
  obtain ⟨ys, ho, _⟩ := h
  exact own_slice2_ ho
theorem wts_slice {W : World} {lo : Nat} {v : Value} {ws : List Wr} (h : WtsAt W lo v ws) : ∃ A c, v = .slice A ws.length c := by
  obtain ⟨ys, ho, _⟩ := h
  exact own_slice2_ ho
theorem secs_setRow {W : World} {lo : Nat} {v : Value} {ss : List Bs} (h : SecsAt W lo v ss) {g : Nat} (hg : g < lo) (cs : Array Value) : SecsAt (W.setRow g cs) lo v ss := by
  obtain ⟨ys, ho, hl, hm, he, hd⟩ := h
  exact ⟨ys, owns_setRow ho hg cs, hl, hm, fun j y s h1 h2 => ⟨owns_setRow (he j y s h1 h2).1 hg cs, (he j y s h1 h2).2⟩, hd⟩
theorem wts_setRow {W : World} {lo : Nat} {v : Value} {ws : List Wr} (h : WtsAt W lo v ws) {g : Nat} (hg : g < lo) (cs : Array Value) : WtsAt (W.setRow g cs) lo v ws := by
  obtain ⟨ys, ho, hl, hm, he⟩ := h
  exact ⟨ys, owns_setRow ho hg cs, hl, hm, fun j y s h1 h2 => ⟨owns_setRow (he j y s h1 h2).1 hg cs, (he j y s h1 h2).2⟩⟩

/-- A disk is not great. -/
structure Fits (ss : List Bs) (ws : List Wr) : Prop where
  n : ss.length ≤ 1000
  m : ws.length ≤ 1000
  s : ∀ s ∈ ss, s.length ≤ 1000000
  w : ∀ x ∈ ws, x.2.length ≤ 1000000
theorem May.fits {ss : List Bs} {ws : List Wr} (h : May ss ws) : Fits ss ws :=
  ⟨by rw [h.n]; omega, by have := h.m; omega, fun x hx => by rw [h.s x hx]; omega, fun x hx => by rw [(h.w x hx).2.2]; omega⟩

set_option maxHeartbeats 1000000 in
theorem twin_any (d : Value) (ss : List Bs) (ws : List Wr) (w : World) {B : Nat} (hB : B ≤ w.heap.size) (h : DiskIn w B d ss ws) (hf : Fits ss ws) :
    Calls Try.prog 47 #[d] w fun e w' => ∃ d', e = .returned d' ∧ DiskAt w' w.heap.size d' ss ws ∧ Below w.heap.size w w' := by
  obtain ⟨v1, v2, rfl, h1, h2⟩ := h
  have H1 := Lib.hid h1
  have H2 := Lib.hid h2
  have HF := Lib.hid hf
  clear h1 h2 hf
  have HB0 : Hid (Below w.heap.size w ((w.alloc (.cells #[v1, v2] 29)).alloc (.cells #[.slice none 0 0, .slice none 0 0] 29))) := Lib.hid ((below_new w _).alloc (by simp) _)
  have hc1 : ((w.alloc (.cells #[v1, v2] 29)).alloc (.cells #[.slice none 0 0, .slice none 0 0] 29)).heap[w.heap.size]? = some (.cells #[v1, v2] 29 (0, 0)) := by
    rw [heap_alloc_lt _ _ (by rw [heap_alloc_size]; omega)]; exact heap_alloc_self _ _
  have hc2 : ((w.alloc (.cells #[v1, v2] 29)).alloc (.cells #[.slice none 0 0, .slice none 0 0] 29)).heap[w.heap.size + 1]? = some (.cells #[.slice none 0 0, .slice none 0 0] 29 (0, 0)) := by
    have := heap_alloc_self (w.alloc (.cells #[v1, v2] 29)) (.cells #[.slice none 0 0, .slice none 0 0] 29)
    rwa [heap_alloc_size] at this
  go_enter Try.func47, Try.ntmps47
  go_wp2_with fail
  generalize (w.alloc (.cells #[v1, v2] 29)).alloc (.cells #[.slice none 0 0, .slice none 0 0] 29) = q at HB0 hc1 hc2 ⊢
  have C1 := Lib.hid hc1
  have C2 := Lib.hid hc2
  have R0 : Hid (Below w.heap.size w q.drew) := Lib.hid (HB0.out.drew)
  have R1 : Hid (Below q.heap.size q q.drew) := Lib.hid (Below.refl _ q).drew
  clear hc1 hc2
  refine wp_region_held_drew (S := fun v => v.heap[w.heap.size]? = some (.cells #[v1, v2] 29 (0, 0))) (by kernel_rfl) ?_ (fun hHeld => ?_)
  · exact C1.out
  refine wpAnyH_take (i := 0) (v := ?_) rfl (by kernel_rfl) (by kernel_rfl) (by kernel_rfl) (fun _ _ _ h => h) (Or.inl ⟨by rfl, ?_⟩) hHeld ?_
  rotate_left
  · intro w' hSw; go_simp; try with_reducible rfl
  simp only [List.getElem_toArray, List.getElem_cons_succ, List.getElem_cons_zero, Act.put, List.setIfInBounds_toArray, List.set_cons_zero, List.set_cons_succ]
  refine wpAnyH_take (i := 1) (v := ?_) rfl (by kernel_rfl) (by kernel_rfl) (by kernel_rfl) (fun _ _ _ h => h) (Or.inl ⟨by rfl, ?_⟩) hHeld ?_
  rotate_left
  · intro w' hSw; obtain ⟨c0, c1⟩ := cell2_of hSw; go_simp; try with_reducible rfl
  simp only [List.getElem_toArray, List.getElem_cons_succ, List.getElem_cons_zero, Act.put, List.setIfInBounds_toArray, List.set_cons_zero, List.set_cons_succ]
  refine wpAnyH_take (i := 3) (v := ?_) rfl (by kernel_rfl) (by kernel_rfl) (by kernel_rfl) (fun _ _ _ h => h) (Or.inl ⟨by rfl, ?_⟩) hHeld ?_
  rotate_left
  · intro w' hSw; go_simp; try with_reducible rfl
  simp only [List.getElem_toArray, List.getElem_cons_succ, List.getElem_cons_zero, Act.put, List.setIfInBounds_toArray, List.set_cons_zero, List.set_cons_succ]
  refine wpAnyH_take (i := 4) (v := ?_) rfl (by kernel_rfl) (by kernel_rfl) (by kernel_rfl) (fun _ _ _ h => h) (Or.inl ⟨by rfl, ?_⟩) hHeld ?_
  rotate_left
  · intro w' hSw; obtain ⟨c0, c1⟩ := cell2_of hSw; go_simp; try with_reducible rfl
  simp only [List.getElem_toArray, List.getElem_cons_succ, List.getElem_cons_zero, Act.put, List.setIfInBounds_toArray, List.set_cons_zero, List.set_cons_succ]
  refine wpAnyH_ready (rs := [2]) (by kernel_rfl) (by simp) ?_
  refine AllReadyH.cons rfl (fun K hK => ?_) AllReadyH.nil
  go_simp
  refine (copied_secs _ ss q.drew (B := B) (Nat.le_trans hB R0.out.size) (H1.out.below (R0.out.mono hB)) HF.out.n HF.out.s).mono ?_
  rintro e wA ⟨y1, rfl, hoA, bA⟩
  have OA := Lib.hid hoA
  have R2 := Lib.hid (R1.out.trans (bA.mono R1.out.size))
  have R3 := Lib.hid (R0.out.trans (bA.mono R0.out.size))
  obtain ⟨A9, c9, rfl⟩ := secs_slice hoA
  clear hoA bA
  try go_wp2_with fail
  refine hK.out _ _ ?_ (fun hHeld => ?_)
  · exact (R2.out.block _ (heap_lt C1.out)).trans C1.out
  clear hK K
  try simp only [List.getElem_toArray, List.getElem_cons_succ, List.getElem_cons_zero, Act.put, List.setIfInBounds_toArray, List.set_cons_zero, List.set_cons_succ]
  refine wpAnyH_ready (rs := [5]) (by kernel_rfl) (by simp) ?_
  refine AllReadyH.cons rfl (fun K hK => ?_) AllReadyH.nil
  go_simp
  refine (copied_wts _ ws wA (B := B) (Nat.le_trans hB R3.out.size) (H2.out.below (R3.out.mono hB)) HF.out.m HF.out.w).mono ?_
  rintro e wB ⟨y2, rfl, hoB, bB⟩
  have OB := Lib.hid hoB
  have R4 := Lib.hid (R2.out.trans (bB.mono R2.out.size))
  have OA2 := Lib.hid (OA.out.below bB)
  obtain ⟨A8, c8, rfl⟩ := wts_slice hoB
  clear hoB bB
  try go_wp2_with fail
  refine hK.out _ _ ?_ (fun hHeld => ?_)
  · exact (R4.out.block _ (heap_lt C1.out)).trans C1.out
  clear hK K
  try simp only [List.getElem_toArray, List.getElem_cons_succ, List.getElem_cons_zero, Act.put, List.setIfInBounds_toArray, List.set_cons_zero, List.set_cons_succ]
  refine wpAnyH_take (i := 6) (v := ?_) rfl (by kernel_rfl) (by kernel_rfl) (by kernel_rfl) (fun _ _ _ h => h) (Or.inl ⟨by rfl, ?_⟩) hHeld ?_
  rotate_left
  · intro w' hSw; go_simp; try with_reducible rfl
  simp only [List.getElem_toArray, List.getElem_cons_succ, List.getElem_cons_zero, Act.put, List.setIfInBounds_toArray, List.set_cons_zero, List.set_cons_succ]
  have C3 := Lib.hid ((R4.out.block _ (heap_lt C2.out)).trans C2.out)
  refine wpAnyH_ready (rs := [7]) (by kernel_rfl) (by simp) ?_
  refine AllReadyH.cons rfl (fun K hK => ?_) AllReadyH.nil
  rw [if_pos (by rfl)]
  refine wp_store_2 29 _ _ rfl (w.heap.size + 1) rfl rfl C3.out infoDisk2 rfl rfl ?_
  refine hK.out _ _ ?_ (fun hHeld => ?_)
  · exact (setRow_other _ _ _ _ (by omega)).trans hHeld
  clear hK K
  try simp only [List.getElem_toArray, List.getElem_cons_succ, List.getElem_cons_zero, Act.put, List.setIfInBounds_toArray, List.set_cons_zero, List.set_cons_succ]
  refine wpAnyH_done (by kernel_rfl) ?_ _
  have hall := Lib.hid (HB0.out.trans (R4.out.mono HB0.out.size))
  have hcell := Lib.hid (setRow_heap _ _ _ #[.slice A9 ss.length c9, .slice A8 ws.length c8] _ _ C3.out)
  have S1 := Lib.hid (secs_setRow OA2.out (g := w.heap.size + 1) (by have := heap_lt C2.out; exact this) #[.slice A9 ss.length c9, .slice A8 ws.length c8])
  have S2 := Lib.hid (wts_setRow OB.out (g := w.heap.size + 1) (by have := heap_lt C2.out; have := R2.out.size; omega) #[.slice A9 ss.length c9, .slice A8 ws.length c8])
  clear R1
  go_wp2_with fail
  refine bodyPost_ret (v := .agg #[.slice A9 ss.length c9, .slice A8 ws.length c8]) ?_ rfl ⟨_, rfl, ⟨_, _, rfl, S1.out.mono R0.out.size, S2.out.mono R3.out.size⟩, ?_⟩
  · exact results_cell_2 rfl _ _ (w.heap.size + 1) rfl hcell.out Try.underlying29 infoDisk2
  · exact below_setRow hall.out (by omega) _
end Go.Proofs.Ytdjoflhcagfmiaa
