/-
  The document's own answer: the tag, or the error.
  Conditions: at most 4,000 bytes.
-/
import Derived.Test.YtdaaemnfphagbaaDoorHmacRef
import Derived.Test.YtdaaemnfphagbaaDoorHmacBoth
set_option linter.unusedVariables false
set_option linter.unusedSimpArgs false
namespace Go.Proofs.YtdaaemnfphagbaaDoor
open Go.RowKit

/-- A whole array into a block that holds one, as one operation. -/
theorem wp_store_whole {P : Program} {op : Oper} {a : Act} {w : World} {K : Act → World → Prop} {Q : Exit → Act → World → Prop} (ty : TypeId) (x y : Operand) (ho : op.op = .store ty x y)
    (b : Nat) (hx : a.eval x = .pointer (some ⟨b, 0, none⟩)) {c c' : Array Value} (hy : a.eval y = .agg c') {t : TypeId} (hb : w.heap[b]? = some (.cells c t (0, 0)))
    (hi : (P.info? ty).map (·.size) = some c'.size) (hs : c.size = c'.size) (h1 : c'.all (·.oneCell') = true)
    (h : K (a.put op.dst undef) (w.setRow b c')) : op.wp P a w K Q := by
  unfold Oper.wp execOp
  simp only [ho, hx, hy, Instr.storeAt, Instr.sureAddr, Sem.run_bind, Sem.run_pure, Result.andThen_ok]
  rw [run_storeVar_row w b t ty c c' hb hi hs h1]
  exact h

set_option maxRecDepth 100000 in
set_option maxHeartbeats 2000000 in
theorem of_ref (v x : Value) (key b : List UInt8) (hk : key.length ≤ 64) (hb : b.length ≤ 4000) (w : World) (h0 : Txt w w.heap.size v key) (h1 : Txt w w.heap.size x b) :
    Calls Tryd.prog 16 #[v, x] w fun e w' => e = .returned (.agg (rowB (tagL key b))) ∧ Below w.heap.size w w' := by
  have HX0 := Lib.hid h0
  have HX1 := Lib.hid h1
  have hz32 := zero32.1
  obtain ⟨A0, c0, rfl, -, -, -, -⟩ := h0
  obtain ⟨A1, c1, rfl, -, -, -, -⟩ := h1
  obtain ⟨i0, hi, hz0, hz1, hz2⟩ := info_parts infoByte
  have I0 := Lib.hid hi
  have I1 := Lib.hid hz0
  have I2 := Lib.hid hz1
  have I3 := Lib.hid hz2
  have KL : Hid ((turnK (padK key) 92).length = 64) := Lib.hid (by rw [turnK_length]; exact padK_length hk)
  have IL := Lib.hid (innerL_length key b)
  have TL := Lib.hid (tagL_length key b)
  clear hi hz0 hz1 hz2
  go_enter Tryd.func16, Tryd.ntmps16
  go_wp2_with fail
  have hu0 := heap_alloc_self w (.cells (Array.replicate 32 (.int .u8 0)) 22)
  have hub := below_new w (.cells (Array.replicate 32 (.int .u8 0)) 22)
  generalize w.alloc (.cells (Array.replicate 32 (.int .u8 0)) 22) = u at hu0 hub ⊢
  have U0 := Lib.hid hu0
  have UB := Lib.hid hub
  clear hu0 hub
  refine (inner_ref _ _ key b hk hb _ ((HX0.out.below UB.out).more UB.out.size) ((HX1.out.below UB.out).more UB.out.size)).mono ?_
  rintro e w1 ⟨rfl, b1⟩
  have B1 := Lib.hid (UB.out.trans (b1.mono UB.out.size))
  have U1 := Lib.hid ((b1.block _ (heap_lt U0.out)).trans U0.out)
  clear b1 UB U0
  go_wp2_with (refine wpList_store_new (op := ⟨none, _, _, _, _, _⟩) rfl _ _ rfl rfl rfl IL.out ?_; intro q hx1 hb1; have QB := Lib.hid (B1.out.trans (hb1.out.mono B1.out.size)); have Q0 := Lib.hid ((hb1.out.block _ (heap_lt U1.out)).trans U1.out); have QI := hx1; clear hb1 B1 U1)
  have R0 : Hid (Below q.heap.size q q.drew) := Lib.hid (Below.refl _ q).drew
  have D0 : Hid (q.drew.heap[w.heap.size]? = some (.cells (Array.replicate 32 (.int .u8 0)) 22 (0, 0))) := Lib.hid Q0.out
  refine wp_region_held_drew (S := fun _ => True) (by kernel_rfl) trivial (fun hHeld => ?_)
  refine wpAnyH_take (i := 0) (v := ?_) rfl (by kernel_rfl) (by kernel_rfl) (by kernel_rfl) (fun _ _ _ h => h) (Or.inl ⟨by rfl, ?_⟩) hHeld ?_
  rotate_left
  · intro w' hSw; go_simp; try with_reducible rfl
  simp only [List.getElem_toArray, List.getElem_cons_succ, List.getElem_cons_zero, Act.put, List.setIfInBounds_toArray, List.set_cons_zero, List.set_cons_succ]
  refine wpAnyH_take (i := 2) (v := ?_) rfl (by kernel_rfl) (by kernel_rfl) (by kernel_rfl) (fun _ _ _ h => h) (Or.inl ⟨by rfl, ?_⟩) hHeld ?_
  rotate_left
  · intro w' hSw; go_simp; try with_reducible rfl
  simp only [List.getElem_toArray, List.getElem_cons_succ, List.getElem_cons_zero, Act.put, List.setIfInBounds_toArray, List.set_cons_zero, List.set_cons_succ]
  refine wpAnyH_ready (rs := [1]) (by kernel_rfl) (by simp) ?_
  refine AllReadyH.cons rfl (fun K hK => ?_) AllReadyH.nil
  go_simp
  refine (masked_ref 92 _ rfl _ key hk _ ((HX0.out.below (QB.out.trans (R0.out.mono QB.out.size))).more (QB.out.trans (R0.out.mono QB.out.size)).size)).mono ?_
  rintro e wA ⟨r, rfl, hoA, bA⟩
  obtain ⟨A2, c2, rfl⟩ := own_slice_ hoA
  have OA := Lib.hid hoA
  have R1 := Lib.hid (R0.out.trans (bA.mono R0.out.size))
  clear hoA bA
  try go_wp2_with fail
  refine hK.out _ _ ?_ (fun hHeld => ?_)
  · exact trivial
  clear hK K
  try simp only [List.getElem_toArray, List.getElem_cons_succ, List.getElem_cons_zero, Act.put, List.setIfInBounds_toArray, List.set_cons_zero, List.set_cons_succ]
  have txA : Txt wA wA.heap.size (.slice (some ⟨w1.heap.size, 0, none⟩) 32 32) (innerL key b) := by
    have := txt_of_block ((R1.out.block _ (heap_lt QI.out)).trans QI.out) (by rw [IL.out]; unfold maxLen; omega)
    rwa [IL.out] at this
  have TXA := Lib.hid txA
  clear txA
  refine wpAnyH_ready (rs := [3]) (by kernel_rfl) (by simp) ?_
  refine AllReadyH.cons rfl (fun K hK => ?_) AllReadyH.nil
  rw [if_pos (by rfl)]
  refine wp_append_txt (.tmp 10) (.tmp 11) _ rfl Tryd.underlying26 I0.out I1.out I2.out I3.out rfl OA.out rfl TXA.out (by rw [IL.out]; omega) R1.out.size ?_
  intro vB wB hownB hgrowB
  have OB := Lib.hid hownB
  have R2 := Lib.hid (R1.out.grown hgrowB R1.out.size (own_ge OA.out))
  clear hownB hgrowB OA TXA
  try go_wp2_with fail
  refine hK.out _ _ ?_ (fun hHeld => ?_)
  · exact trivial
  clear hK K
  try simp only [List.getElem_toArray, List.getElem_cons_succ, List.getElem_cons_zero, Act.put, List.setIfInBounds_toArray, List.set_cons_zero, List.set_cons_succ]
  have tx8 : Txt wB wB.heap.size vB (turnK (padK key) 92 ++ innerL key b) := Txt.own (by rw [List.length_append, KL.out, IL.out]; unfold maxLen; omega) (base := q.drew.heap.size) (e := 5) (by rw [List.length_append, KL.out, List.map_append]; exact OB.out)
  have TX8 := Lib.hid tx8
  clear tx8
  refine wpAnyH_ready (rs := [4]) (by kernel_rfl) (by simp) ?_
  refine AllReadyH.cons rfl (fun K hK => ?_) AllReadyH.nil
  go_simp
  refine (sum_ref vB _ (by rw [List.length_append, KL.out, IL.out]; omega) _ TX8.out).mono ?_
  rintro e wC ⟨rfl, bC⟩
  have hTG : sumL (turnK (padK key) 92 ++ innerL key b) = tagL key b := rfl
  rw [hTG]
  have R3 := Lib.hid (R2.out.trans (bC.mono R2.out.size))
  clear bC hTG
  try go_wp2_with fail
  refine hK.out _ _ ?_ (fun hHeld => ?_)
  · exact trivial
  clear hK K
  try simp only [List.getElem_toArray, List.getElem_cons_succ, List.getElem_cons_zero, Act.put, List.setIfInBounds_toArray, List.set_cons_zero, List.set_cons_succ]
  have C0 := Lib.hid ((R3.out.block _ (heap_lt Q0.out)).trans Q0.out)
  refine wpAnyH_ready (rs := [5]) (by kernel_rfl) (by simp) ?_
  refine AllReadyH.cons rfl (fun K hK => ?_) AllReadyH.nil
  rw [if_pos (by rfl)]
  refine wp_store_whole 22 _ _ rfl w.heap.size rfl rfl C0.out (by rw [rowB_size, TL.out]; exact zero32.2) (by rw [rowB_size, TL.out]; simp) (rowB_one _) ?_
  refine hK.out _ _ ?_ (fun hHeld => ?_)
  · exact trivial
  clear hK K
  try simp only [List.getElem_toArray, List.getElem_cons_succ, List.getElem_cons_zero, Act.put, List.setIfInBounds_toArray, List.set_cons_zero, List.set_cons_succ]
  refine wpAnyH_done (by kernel_rfl) ?_ _
  have hall := Lib.hid (below_setRow (QB.out.trans (R3.out.mono QB.out.size)) (Nat.le_refl _) (rowB (tagL key b)))
  have hcell := Lib.hid (setRow_heap _ _ _ (rowB (tagL key b)) _ _ C0.out)
  clear R0 R1 R2 R3 D0 Q0 QB QI C0 OB TX8
  go_wp2_with fail
  refine bodyPost_ret (v := .agg (rowB (tagL key b))) ?_ rfl ⟨rfl, hall.out⟩
  exact results_cell_row rfl _ _ w.heap.size _ _ (0, 0) _ rfl hcell.out Tryd.underlying22 rfl (by rw [rowB_size, TL.out]; exact zero32.2)

theorem tag_ref_long (v x : Value) (key : List UInt8) (h : 64 < key.length) (w : World) (hk : Txt w w.heap.size v key) :
    Calls Tryd.prog 11 #[v, x] w fun e w' => e = .returned (.tuple #[.agg (rowB (List.replicate 32 0)), .int .i64 3]) ∧ Below w.heap.size w w' := by
  have hz32 := zero32.1
  obtain ⟨A0, cap0, rfl, -, -, -, -⟩ := hk
  have g1 : (64 : Int) < key.length := by omega
  have hh := heap_alloc_self w (.cells (Array.replicate 32 (.int .u8 0)) 22)
  have HH := Lib.hid hh
  clear hh
  rw [rowB_zero]
  go_enter Tryd.func11, Tryd.ntmps11
  go_wp2_with (refine wpList_store_row rfl 22 _ _ rfl w.heap.size rfl rfl HH.out zero32.2 (by simp) (zeros_one 32) ?_)
  refine bodyPost_ret (v := .tuple #[.agg (Array.replicate 32 (.int .u8 0)), .int .i64 3]) ?_ rfl ⟨rfl, below_setRow ((Below.refl _ _).alloc (Nat.le_refl _) _) (Nat.le_refl _) _⟩
  exact results_row_tmp rfl _ _ w.heap.size _ _ (0, 0) _ rfl (setRow_heap _ _ _ _ _ _ HH.out) Tryd.underlying22 rfl (by simpa using zero32.2) _ rfl

theorem tag_ref_any (v x : Value) (key b : List UInt8) (hkl : key.length ≤ 64) (hbl : b.length ≤ 4000) (w : World) (hk : Txt w w.heap.size v key) (hx : Txt w w.heap.size x b) :
    Calls Tryd.prog 11 #[v, x] w fun e w' => e = .returned (.tuple #[.agg (rowB (tagL key b)), .int .i64 0]) ∧ Below w.heap.size w w' := by
  have hz32 := zero32.1
  have HX0 := Lib.hid hk
  have HX1 := Lib.hid hx
  obtain ⟨A0, cap0, rfl, -, -, -, -⟩ := hk
  have g1 : ¬ (64 : Int) < key.length := by omega
  have TL := Lib.hid (tagL_length key b)
  go_enter Tryd.func11, Tryd.ntmps11
  go_wp2_with fail
  have hu0 := heap_alloc_self w (.cells (Array.replicate 32 (.int .u8 0)) 22)
  have hub := below_new w (.cells (Array.replicate 32 (.int .u8 0)) 22)
  generalize w.alloc (.cells (Array.replicate 32 (.int .u8 0)) 22) = u at hu0 hub ⊢
  have U0 := Lib.hid hu0
  have UB := Lib.hid hub
  clear hu0 hub
  refine (of_ref _ _ key b hkl hbl _ ((HX0.out.below UB.out).more UB.out.size) ((HX1.out.below UB.out).more UB.out.size)).mono ?_
  rintro e w1 ⟨rfl, b1⟩
  have B1 := Lib.hid (UB.out.trans (b1.mono UB.out.size))
  have U1 := Lib.hid ((b1.block _ (heap_lt U0.out)).trans U0.out)
  clear b1 UB U0
  go_wp2_with (refine wpList_store_row rfl 22 _ _ rfl w.heap.size rfl rfl U1.out (by rw [rowB_size, TL.out]; exact zero32.2) (by rw [rowB_size, TL.out]; simp) (rowB_one _) ?_)
  refine bodyPost_ret (v := .tuple #[.agg (rowB (tagL key b)), .int .i64 0]) ?_ rfl ⟨rfl, below_setRow B1.out (Nat.le_refl _) _⟩
  exact results_row_tmp rfl _ _ w.heap.size _ _ (0, 0) _ rfl (setRow_heap _ _ _ _ _ _ U1.out) Tryd.underlying22 rfl (by rw [rowB_size, TL.out]; exact zero32.2) _ rfl

theorem tag_ref (v x : Value) (key b : List UInt8) (hbl : b.length ≤ 4000) (w : World) (hk : Txt w w.heap.size v key) (hx : Txt w w.heap.size x b) :
    Calls Tryd.prog 11 #[v, x] w fun e w' => e = .returned (.tuple #[.agg (rowB (tagZ key b)), .int .i64 (tagC key)]) ∧ Below w.heap.size w w' := by
  by_cases h : key.length ≤ 64
  · rw [tagZ, tagC, if_pos h, if_pos h]; exact tag_ref_any v x key b h hbl w hk hx
  · rw [tagZ, tagC, if_neg h, if_neg h]; exact tag_ref_long v x key (by omega) w hk
end Go.Proofs.YtdaaemnfphagbaaDoor
