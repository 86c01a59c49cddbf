/-
  A record's bytes, as the program makes them.
  Conditions: the record may be.
-/
import Derived.Test.YtdjoflhcagfmiaaSlotFill
import Derived.Test.YtdjoflhcagfmiaaCrcSum
import Derived.Deep.RegionLaw
import Derived.StillTailTactics
set_option linter.unusedVariables false
set_option linter.unusedSimpArgs false
set_option maxRecDepth 100000
namespace Go.Proofs.Ytdjoflhcagfmiaa
open Go.RowKit

theorem body_steps0 (g : Nat) (t : Bs) : putB (putB (putB (List.replicate (t.length + 6) 0) 0 (le 4 g)) 4 (le 2 t.length)) 6 t = summedR g t := by
  have e0 : (List.replicate (t.length + 6) (0 : UInt8)) = [] ++ List.replicate (t.length + 6) 0 := rfl
  rw [e0, putB_mid _ _ _ 0 rfl, le_length, List.drop_replicate, List.nil_append,
    putB_mid _ _ _ 4 (by rw [le_length]), le_length, List.drop_replicate,
    putB_mid _ _ _ 6 (by simp [le_length]), List.drop_replicate, show t.length + 6 - 4 - 2 - t.length = 0 from by omega]
  simp [summedR]
theorem body_steps1 (g : Nat) (t : Bs) : putB (summedR g t) 0 (le 4 (sumR g t)) = bodyR g t := by
  have e0 : summedR g t = [] ++ summedR g t := rfl
  rw [e0, putB_mid _ _ _ 0 rfl, le_length, List.nil_append, summedR, List.drop_append_of_le_length (by rw [le_length]; exact Nat.le_refl _), List.drop_eq_nil_of_le (by rw [le_length]; exact Nat.le_refl _), List.nil_append]
  rfl
theorem summedR_length (g : Nat) (t : Bs) : (summedR g t).length = t.length + 6 := by simp only [summedR, List.length_append, le_length]; omega

set_option maxHeartbeats 2000000 in
theorem bytesOf_any (g : Nat) (t : Bs) (v : Value) (w : World) (hg : g < 4294967296) (hl : t.length ≤ 1882) (h : Txt w w.heap.size v t) :
    Calls Try.prog 59 #[.agg #[.int .u32 g, v]] w fun e w' => ∃ y, e = .returned y ∧ w'.ownsRow w.heap.size 5 1 y (bodyR g t).length ((bodyR g t).map u8) ∧ Below w.heap.size w w' := by
  have X := Lib.hid h
  have HG := Lib.hid hg
  have HL := Lib.hid hl
  obtain ⟨A3, c3, rfl, -, -, -, -⟩ := h
  clear hg hl
  obtain ⟨m, hm⟩ : ∃ m, m = t.length + 6 := ⟨_, rfl⟩
  have hm6 : (6 : Int) + t.length = m := by omega
  have hmk : ∀ w' : World, (Instr.makeSlice 34 (.int .i64 (m : Int)) (.int .i64 (m : Int))).run Try.prog w' = .ok (.slice (some ⟨w'.heap.size, 0, none⟩) m m) (w'.alloc (.cells (rowB (List.replicate m 0)) 5)) := make_noughts m (by have := HL.out; omega)
  have hmb : m ≤ 2000 := by have := HL.out; omega
  have HM := Lib.hid hm
  clear hm
  go_enter Try.func59, Try.ntmps59
  go_wp2_with (refine (putter_made _ _ _ _).mono ?_; rintro e w1 ⟨rfl, rfl⟩)
  obtain ⟨q, hq, q0, q1, q2, qs, qb⟩ := boxes3 w (.cells #[.int .u32 g, .slice A3 t.length c3] 36) (.cells (rowB (List.replicate m 0)) 5) (.cells #[.slice (some ⟨w.heap.size + 1, 0, none⟩) m m] 34)
  rw [← hq]
  have Q0 := Lib.hid q0
  have QB := Lib.hid qb
  have QS := Lib.hid qs
  have hp0 : PutAt q (w.heap.size + 1 + 1) (w.heap.size + 1) 0 m (List.replicate m 0) 5 := ⟨by simp, ⟨0, q2, fun _ => rfl⟩, q1⟩
  have hc0 := (cell2_of q0).1
  clear hq q0 q1 q2 qb qs hmk
  go_wp2_with fail
  refine (put1_any (w.heap.size + 1 + 1) (w.heap.size + 1) 0 m g 4 _ _ q HG.out (by have := HM.out; omega) (by omega) (by omega) hp0).mono ?_
  rintro e q1 ⟨⟨y1, rfl⟩, hp1, ho1⟩
  clear hp0 hc0
  have R1 := Lib.hid ((ho1.block w.heap.size (by omega) (by omega)).trans Q0.out)
  have hc1 := (cell2_of R1.out).2
  have et := int_word (n := t.length) (by have := HL.out; omega)
  go_wp2_with fail
  refine (put1_any (w.heap.size + 1 + 1) (w.heap.size + 1) (0 + 4) (m - 4) t.length 2 _ _ q1 (by have := HL.out; omega) (by have := HM.out; omega) (by omega) (by omega) hp1).mono ?_
  rintro e q2 ⟨⟨y2, rfl⟩, hp2, ho2⟩
  clear hp1 hc1 et
  have R2 := Lib.hid ((ho2.block w.heap.size (by omega) (by omega)).trans R1.out)
  have O2 := Lib.hid (ho1.trans ho2)
  have B2 : Hid (Below w.heap.size w q2) := Lib.hid (QB.out.trans (O2.out.below (by omega) (by omega) (by have := QS.out; omega)))
  have S2 : Hid (q2.heap.size = w.heap.size + 3) := Lib.hid (O2.out.size.trans QS.out)
  have H2 := Lib.hid hp2.2.2
  clear hp2 ho1 ho2
  obtain ⟨L2, hL2⟩ : ∃ L, L = putB (putB (List.replicate m 0) 0 (le 4 g)) (0 + 4) (le 2 t.length) := ⟨_, rfl⟩
  have LL2 : Hid (L2.length = m) := Lib.hid (by have := HM.out; rw [hL2, putB_length (by rw [putB_length (by simp [le_length]; omega)]; simp [le_length]; omega), putB_length (by simp [le_length]; omega)]; simp)
  rw [← hL2] at H2
  have hc2 := (cell2_of R2.out).2
  have XP := Lib.hid (X.out.below B2.out)
  go_wp2_with fail
  refine wp_region_still_tail 4 (by kernel_rfl) (by kernel_rfl) ?_
  change wpStill _ _ (World.drew q2) (fun a' => wpList _ _ _ _ a' (World.drew q2)) _ _
  have R3 : Hid (q2.drew.heap[w.heap.size]? = some (.cells #[.int .u32 g, .slice A3 t.length c3] 36 (0, 0))) := R2
  have H3 : Hid (q2.drew.heap[w.heap.size + 1]? = some (.cells (rowB L2) 5 (0, 0))) := H2
  have B3 : Hid (Below w.heap.size w q2.drew) := Lib.hid B2.out.drew
  have S3 : Hid (q2.drew.heap.size = w.heap.size + 3) := S2
  have XP3 : Hid (Txt q2.drew w.heap.size (.slice A3 t.length c3) t) := XP
  have hc3 : q2.drew.cell? ⟨w.heap.size, 1, none⟩ = _ := hc2
  generalize q2.drew = q3 at R3 H3 B3 S3 XP3 hc3 ⊢
  clear hc2 XP H2 S2 B2 R2 O2
  simp only [List.take_succ_cons, List.take_zero, List.drop_succ_cons, List.drop_zero]
  obtain ⟨D, hD, hD2⟩ := cut_from (some ⟨w.heap.size + 1, 0, none⟩) m m 6 (by have := HM.out; omega) (Nat.le_refl _)
  have hD : ∀ w' : World, (Instr.sliceAt 34 (.slice (some ⟨w.heap.size + 1, 0, none⟩) m m) (some (.int .i64 6)) none none).run Try.prog w' = .ok (.slice D (m - 6) (m - 6)) w' := hD
  have HD2 : Hid (6 < m → D = some ⟨w.heap.size + 1, 6, none⟩) := Lib.hid (fun h => by rw [hD2 h]; rfl)
  clear hD2
  repeat still_step
  refine wpStill_nil ?_
  clear hD hc3
  go_wp2_with (refine wpList_copy_splice (o := ⟨some 26, _, _, _, _, _⟩) rfl (.tmp 23) (.tmp 25) _ _ rfl 5 Try.underlying34 infoByteSize _ _ _ _ t.length c3 rfl rfl (w.heap.size + 1) 6 (L2.map u8) 5 H3.out (t.map u8) (by have := HM.out; rw [List.length_map]; exact (Nat.min_eq_left (by omega)).symm) (fun hp => ⟨HD2.out (by rw [List.length_map] at hp; have := HM.out; omega), XP3.out.src hp⟩) (by have := HM.out; have := LL2.out; rw [List.length_map, List.length_map]; omega) (u8s_oneCell t) (w.heap.size + 1) q3 (Below.refl _ _) (Nat.le_refl _) ?_; intro w4 hg4 hb4)
  have hg5 := hg4.out
  rw [splice_u8, hL2, HM.out, show 0 + 4 = 4 from rfl, body_steps0] at hg5
  have B4 := Lib.hid (B3.out.trans (hb4.mono (by omega)))
  have L4 := Lib.hid hb4.size
  have G4 := Lib.hid hg5
  clear hg4 hg5 hb4
  go_wp2_with (refine (putter_made _ _ _ _).mono ?_; rintro e w5 ⟨rfl, rfl⟩)
  have hM : w.heap.size + 1 < w4.heap.size := by have := L4.out; have := S3.out; omega
  have k1 := heap_alloc_self w4 (.cells #[.slice (some ⟨w.heap.size + 1, 0, none⟩) m m] 34)
  have k2 := (heap_alloc_lt w4 (.cells #[.slice (some ⟨w.heap.size + 1, 0, none⟩) m m] 34) hM).trans G4.out
  have k4 := B4.out.alloc B4.out.size (.cells #[.slice (some ⟨w.heap.size + 1, 0, none⟩) m m] 34)
  have k5 := heap_alloc_size w4 (.cells #[.slice (some ⟨w.heap.size + 1, 0, none⟩) m m] 34)
  generalize w4.alloc (.cells #[.slice (some ⟨w.heap.size + 1, 0, none⟩) m m] 34) = q5 at k1 k2 k4 k5 ⊢
  have hsl : (summedR g t).length = m := by rw [summedR_length, HM.out]
  have hx5 := txt_of_block k2 (by rw [hsl]; unfold maxLen; omega)
  rw [hsl] at hx5
  refine (csum_any _ _ q5 hx5).mono ?_
  rintro e w6 ⟨rfl, b6⟩
  have hp5 : PutAt w6 w4.heap.size (w.heap.size + 1) 0 m (summedR g t) 5 := ⟨by rw [hsl]; omega, ⟨0, (b6.block _ (heap_lt k1)).trans k1, fun _ => rfl⟩, (b6.block _ (heap_lt k2)).trans k2⟩
  have B6 := Lib.hid (k4.trans (b6.mono k4.size))
  have L6 : Hid (w4.heap.size < w6.heap.size) := Lib.hid (Nat.lt_of_lt_of_le (by rw [k5]; omega) b6.size)
  have HMW := Lib.hid hM
  clear k1 k2 k4 k5 hM hx5 b6 hsl
  go_wp2_with fail
  refine (put1_any w4.heap.size (w.heap.size + 1) 0 m (over 0 (summedR g t)) 4 _ _ w6 (sumR_lt g t) (by have := HM.out; omega) (by omega) (by have := HMW.out; omega) hp5).mono ?_
  rintro e q7 ⟨⟨y7, rfl⟩, hp7, ho7⟩
  clear hp5
  have h7 := hp7.2.2
  rw [show over 0 (summedR g t) = sumR g t from rfl, body_steps1] at h7
  have H7 := Lib.hid h7
  have B7 : Hid (Below w.heap.size w q7) := Lib.hid (B6.out.trans (ho7.below (by have := HMW.out; omega) (by omega) (by have := L6.out; have := HMW.out; omega)))
  clear hp7 ho7 h7
  go_wp2_with fail
  go_ret
  have hbl : (bodyR g t).length = m := by rw [bodyR_length, HM.out]
  refine ⟨_, rfl, ?_, B7.out⟩
  have := own_of_block (base := w.heap.size) (by omega) H7.out (by rw [hbl]; unfold maxLen; omega)
  rw [hbl] at this ⊢
  exact this
end Go.Proofs.Ytdjoflhcagfmiaa
