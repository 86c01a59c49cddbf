/-
  The program's package track: Through, slices.Index over ways, Out.
  Conditions: none.
-/
import Derived.Test.YtnhglgpmmipjaaaTrkPC
import Derived.BigQuiet
set_option linter.unusedVariables false
set_option linter.unusedSimpArgs false
set_option maxRecDepth 100000
namespace Go.Proofs.Ytnhglgpmmipjaaa
open Go.RowKit

theorem cell18 {W : World} {p : Nat} {c : Array Value} {t : TypeId} {fr : Nat × Nat} (h : W.heap[p]? = some (.cells c t fr)) (j : Nat) (v : Value) (hv : c[j]? = some v) : W.cell? ⟨p, j, none⟩ = some v := by rw [cell_of_row _ _ j c t fr h]; exact hv
set_option maxHeartbeats 8000000 in
theorem pthrough_any (v : Value) (s : Sec) (a b : Int) (w : World) (h : SecV w w.heap.size v s) :
    Calls Try.prog 12 #[v, .int .i64 a, .int .i64 b] w fun e w' => e = .returned (.tuple #[.int .i64 (thrL s a b), .int .i64 (thrE s a b)]) ∧ Below w.heap.size w w' := by
  have H := Lib.hid h
  obtain ⟨u, rfl, hu⟩ := h
  obtain ⟨A, c, rfl, -, -⟩ := hu.slice
  obtain ⟨id, pt, l⟩ := s
  dsimp only at hu H ⊢
  obtain ⟨n, hn⟩ : ∃ n, n = l.length := ⟨_, rfl⟩
  have HE0 : Hid (thrE (id, pt, l) a b = if shapedB (id, pt, l) then (if lieS pt a b < 0 then 2 else 0) else 8) := Lib.hid rfl
  have HL0 : Hid (thrL (id, pt, l) a b = if thrE (id, pt, l) a b = 0 then lieS pt a b else 0) := Lib.hid rfl
  have HWY : Hid (waysOf (id, pt, l) = if shapedB (id, pt, l) then (if pt = 0 then ways1 else ways2) else ways0) := Lib.hid rfl
  rw [← hn] at H ⊢
  clear hu hn
  have hq0 := heap_alloc_self w (.cells #[.int .i64 id, .int .i64 pt, .slice A n c] 33)
  have hqb := below_new w (.cells #[.int .i64 id, .int .i64 pt, .slice A n c] 33)
  go_enter Try.func12, Try.ntmps12
  go_upto_region 1 with fail
  generalize w.alloc (.cells #[.int .i64 id, .int .i64 pt, .slice A n c] 33) = q at hq0 hqb ⊢
  have X0 := Lib.hid hq0
  have QB := Lib.hid hqb
  clear hq0 hqb
  obtain ⟨k0, k1, k2⟩ := cell3_of X0.out
  go_wp2_with fail
  refine (through_ways _ (id, pt, l) q ((H.out.below QB.out).more QB.out.size)).mono ?_
  rintro e w1 ⟨rfl, b1⟩
  have B1 := Lib.hid (QB.out.trans (b1.mono QB.out.size))
  clear b1 k0 k1 k2
  have hz0 := heap_alloc_self w1 (.cells (waysOf (id, pt, l)) 59)
  have hzb := below_new w1 (.cells (waysOf (id, pt, l)) 59)
  obtain ⟨q8, hq8⟩ : ∃ q8, q8 = w1.alloc (.cells (waysOf (id, pt, l)) 59) := ⟨_, rfl⟩
  rw [← hq8] at hz0 hzb
  have hi18 : (Try.prog.info? 59).map (·.size) = some 18 := by kernel_rfl
  have h18 : (waysOf (id, pt, l)).size = 18 ∧ (waysOf (id, pt, l)).all (·.oneCell') = true := by
    rw [waysOf]
    split
    · split
      · exact ⟨rfl, ways1_one⟩
      · exact ⟨rfl, ways2_one⟩
    · exact ⟨rfl, ways0_one⟩
  have H18 := Lib.hid h18
  have HI18 := Lib.hid hi18
  clear h18 hi18
  generalize hW : waysOf (id, pt, l) = W18 at hz0 hzb hq8 H18 HWY ⊢
  clear hW
  generalize hs : shapedB (id, pt, l) = sh at HE0 HWY ⊢
  clear hs
  go_upto_region 2 with ((with_reducible show wpList _ _ _ (⟨none, _, _, _, _, _⟩ :: _) _ _); refine wpList_store_row7 (c := ways0) rfl _ (.tmp 8) (.tmp 13) rfl w1.heap.size rfl rfl (heap_alloc_self _ _) (by rw [H18.out.1]; exact HI18.out) (by rw [H18.out.1]; rfl) H18.out.2 ?_; rw [World.setRow_alloc_new])
  rw [← hq8]
  have B8 := Lib.hid (B1.out.trans (hzb.mono B1.out.size))
  have X8 := Lib.hid hz0
  generalize w1.heap.size = p8 at X8 ⊢
  clear hz0 hzb hq8
  cases sh with
  | false =>
    have HE : Hid (thrE (id, pt, l) a b = 8) := Lib.hid (HE0.out.trans rfl)
    have HL : Hid (thrL (id, pt, l) a b = 0) := Lib.hid (by rw [HL0.out, HE.out]; rfl)
    clear HE0 HL0
    go_wp2_with fail
    refine bodyPost_ret (results_tmp2 rfl _ _ _) rfl ?_
    exact ⟨by rw [HE.out, HL.out]; rfl, B8.out⟩
  | true =>
    have HE1 : Hid (thrE (id, pt, l) a b = if lieS pt a b < 0 then 2 else 0) := Lib.hid (HE0.out.trans (if_pos rfl))
    have HW1 : Hid (W18 = if pt = 0 then ways1 else ways2) := Lib.hid (HWY.out.trans (if_pos rfl))
    clear HE0 HWY
    by_cases ha : a = 0 ∨ a = 1 ∨ a = 2
    · by_cases hb : b = 0 ∨ b = 1 ∨ b = 2
      · by_cases h0 : pt = 0

        · subst h0
          have X9 : Hid (q8.heap[p8]? = some (.cells ways1 59 (0, 0))) := Lib.hid (by rw [X8.out, HW1.out, if_pos rfl])
          clear X8 HW1
          rcases ha with rfl | rfl | rfl <;> rcases hb with rfl | rfl | rfl
          · have hb1 := cell18 X9.out 0 (.bool false) rfl
            have hb2 := cell18 X9.out 1 (.int .i64 0) rfl
            have hm0 : mayB 0 = true := rfl
            have hm1 : mayB 0 = true := rfl
            have HE : Hid (thrE (id, 0, l) 0 0 = 2) := Lib.hid (by rw [HE1.out, show lieS 0 0 0 = -1 from rfl]; rfl)
            have HL : Hid (thrL (id, 0, l) 0 0 = 0) := Lib.hid (by rw [HL0.out, HE.out]; rfl)
            clear HE1 HL0
            go_wp2_with (refine (may_any _ _).mono ?_; rintro e w' ⟨rfl, rfl⟩)
            refine bodyPost_ret (results_tmp2 rfl _ _ _) rfl ?_
            exact ⟨by rw [HE.out, HL.out]; rfl, B8.out⟩
          · have hb1 := cell18 X9.out 2 (.bool true) rfl
            have hb2 := cell18 X9.out 3 (.int .i64 0) rfl
            have hm0 : mayB 0 = true := rfl
            have hm1 : mayB 1 = true := rfl
            have HE : Hid (thrE (id, 0, l) 0 1 = 0) := Lib.hid (by rw [HE1.out, show lieS 0 0 1 = 0 from rfl]; rfl)
            have HL : Hid (thrL (id, 0, l) 0 1 = 0) := Lib.hid (by rw [HL0.out, HE.out, show lieS 0 0 1 = 0 from rfl]; rfl)
            clear HE1 HL0
            go_wp2_with (refine (may_any _ _).mono ?_; rintro e w' ⟨rfl, rfl⟩)
            refine bodyPost_ret (results_tmp2 rfl _ _ _) rfl ?_
            exact ⟨by rw [HE.out, HL.out]; rfl, B8.out⟩
          · have hb1 := cell18 X9.out 4 (.bool false) rfl
            have hb2 := cell18 X9.out 5 (.int .i64 0) rfl
            have hm0 : mayB 0 = true := rfl
            have hm1 : mayB 2 = true := rfl
            have HE : Hid (thrE (id, 0, l) 0 2 = 2) := Lib.hid (by rw [HE1.out, show lieS 0 0 2 = -1 from rfl]; rfl)
            have HL : Hid (thrL (id, 0, l) 0 2 = 0) := Lib.hid (by rw [HL0.out, HE.out]; rfl)
            clear HE1 HL0
            go_wp2_with (refine (may_any _ _).mono ?_; rintro e w' ⟨rfl, rfl⟩)
            refine bodyPost_ret (results_tmp2 rfl _ _ _) rfl ?_
            exact ⟨by rw [HE.out, HL.out]; rfl, B8.out⟩
          · have hb1 := cell18 X9.out 6 (.bool true) rfl
            have hb2 := cell18 X9.out 7 (.int .i64 0) rfl
            have hm0 : mayB 1 = true := rfl
            have hm1 : mayB 0 = true := rfl
            have HE : Hid (thrE (id, 0, l) 1 0 = 0) := Lib.hid (by rw [HE1.out, show lieS 0 1 0 = 0 from rfl]; rfl)
            have HL : Hid (thrL (id, 0, l) 1 0 = 0) := Lib.hid (by rw [HL0.out, HE.out, show lieS 0 1 0 = 0 from rfl]; rfl)
            clear HE1 HL0
            go_wp2_with (refine (may_any _ _).mono ?_; rintro e w' ⟨rfl, rfl⟩)
            refine bodyPost_ret (results_tmp2 rfl _ _ _) rfl ?_
            exact ⟨by rw [HE.out, HL.out]; rfl, B8.out⟩
          · have hb1 := cell18 X9.out 8 (.bool false) rfl
            have hb2 := cell18 X9.out 9 (.int .i64 0) rfl
            have hm0 : mayB 1 = true := rfl
            have hm1 : mayB 1 = true := rfl
            have HE : Hid (thrE (id, 0, l) 1 1 = 2) := Lib.hid (by rw [HE1.out, show lieS 0 1 1 = -1 from rfl]; rfl)
            have HL : Hid (thrL (id, 0, l) 1 1 = 0) := Lib.hid (by rw [HL0.out, HE.out]; rfl)
            clear HE1 HL0
            go_wp2_with (refine (may_any _ _).mono ?_; rintro e w' ⟨rfl, rfl⟩)
            refine bodyPost_ret (results_tmp2 rfl _ _ _) rfl ?_
            exact ⟨by rw [HE.out, HL.out]; rfl, B8.out⟩
          · have hb1 := cell18 X9.out 10 (.bool false) rfl
            have hb2 := cell18 X9.out 11 (.int .i64 0) rfl
            have hm0 : mayB 1 = true := rfl
            have hm1 : mayB 2 = true := rfl
            have HE : Hid (thrE (id, 0, l) 1 2 = 2) := Lib.hid (by rw [HE1.out, show lieS 0 1 2 = -1 from rfl]; rfl)
            have HL : Hid (thrL (id, 0, l) 1 2 = 0) := Lib.hid (by rw [HL0.out, HE.out]; rfl)
            clear HE1 HL0
            go_wp2_with (refine (may_any _ _).mono ?_; rintro e w' ⟨rfl, rfl⟩)
            refine bodyPost_ret (results_tmp2 rfl _ _ _) rfl ?_
            exact ⟨by rw [HE.out, HL.out]; rfl, B8.out⟩
          · have hb1 := cell18 X9.out 12 (.bool false) rfl
            have hb2 := cell18 X9.out 13 (.int .i64 0) rfl
            have hm0 : mayB 2 = true := rfl
            have hm1 : mayB 0 = true := rfl
            have HE : Hid (thrE (id, 0, l) 2 0 = 2) := Lib.hid (by rw [HE1.out, show lieS 0 2 0 = -1 from rfl]; rfl)
            have HL : Hid (thrL (id, 0, l) 2 0 = 0) := Lib.hid (by rw [HL0.out, HE.out]; rfl)
            clear HE1 HL0
            go_wp2_with (refine (may_any _ _).mono ?_; rintro e w' ⟨rfl, rfl⟩)
            refine bodyPost_ret (results_tmp2 rfl _ _ _) rfl ?_
            exact ⟨by rw [HE.out, HL.out]; rfl, B8.out⟩
          · have hb1 := cell18 X9.out 14 (.bool false) rfl
            have hb2 := cell18 X9.out 15 (.int .i64 0) rfl
            have hm0 : mayB 2 = true := rfl
            have hm1 : mayB 1 = true := rfl
            have HE : Hid (thrE (id, 0, l) 2 1 = 2) := Lib.hid (by rw [HE1.out, show lieS 0 2 1 = -1 from rfl]; rfl)
            have HL : Hid (thrL (id, 0, l) 2 1 = 0) := Lib.hid (by rw [HL0.out, HE.out]; rfl)
            clear HE1 HL0
            go_wp2_with (refine (may_any _ _).mono ?_; rintro e w' ⟨rfl, rfl⟩)
            refine bodyPost_ret (results_tmp2 rfl _ _ _) rfl ?_
            exact ⟨by rw [HE.out, HL.out]; rfl, B8.out⟩
          · have hb1 := cell18 X9.out 16 (.bool false) rfl
            have hb2 := cell18 X9.out 17 (.int .i64 0) rfl
            have hm0 : mayB 2 = true := rfl
            have hm1 : mayB 2 = true := rfl
            have HE : Hid (thrE (id, 0, l) 2 2 = 2) := Lib.hid (by rw [HE1.out, show lieS 0 2 2 = -1 from rfl]; rfl)
            have HL : Hid (thrL (id, 0, l) 2 2 = 0) := Lib.hid (by rw [HL0.out, HE.out]; rfl)
            clear HE1 HL0
            go_wp2_with (refine (may_any _ _).mono ?_; rintro e w' ⟨rfl, rfl⟩)
            refine bodyPost_ret (results_tmp2 rfl _ _ _) rfl ?_
            exact ⟨by rw [HE.out, HL.out]; rfl, B8.out⟩
        · have X9 : Hid (q8.heap[p8]? = some (.cells ways2 59 (0, 0))) := Lib.hid (by rw [X8.out, HW1.out, if_neg h0])
          clear X8 HW1
          rcases ha with rfl | rfl | rfl <;> rcases hb with rfl | rfl | rfl
          · have hb1 := cell18 X9.out 0 (.bool false) rfl
            have hb2 := cell18 X9.out 1 (.int .i64 0) rfl
            have hm0 : mayB 0 = true := rfl
            have hm1 : mayB 0 = true := rfl
            have HE : Hid (thrE (id, pt, l) 0 0 = 2) := Lib.hid (by rw [HE1.out, show lieS pt 0 0 = -1 from by simp [lieS, h0]]; rfl)
            have HL : Hid (thrL (id, pt, l) 0 0 = 0) := Lib.hid (by rw [HL0.out, HE.out]; rfl)
            clear HE1 HL0
            go_wp2_with (refine (may_any _ _).mono ?_; rintro e w' ⟨rfl, rfl⟩)
            refine bodyPost_ret (results_tmp2 rfl _ _ _) rfl ?_
            exact ⟨by rw [HE.out, HL.out]; rfl, B8.out⟩
          · have hb1 := cell18 X9.out 2 (.bool true) rfl
            have hb2 := cell18 X9.out 3 (.int .i64 1) rfl
            have hm0 : mayB 0 = true := rfl
            have hm1 : mayB 1 = true := rfl
            have HE : Hid (thrE (id, pt, l) 0 1 = 0) := Lib.hid (by rw [HE1.out, show lieS pt 0 1 = 1 from by simp [lieS, h0]]; rfl)
            have HL : Hid (thrL (id, pt, l) 0 1 = 1) := Lib.hid (by rw [HL0.out, HE.out, show lieS pt 0 1 = 1 from by simp [lieS, h0]]; rfl)
            clear HE1 HL0
            go_wp2_with (refine (may_any _ _).mono ?_; rintro e w' ⟨rfl, rfl⟩)
            refine bodyPost_ret (results_tmp2 rfl _ _ _) rfl ?_
            exact ⟨by rw [HE.out, HL.out]; rfl, B8.out⟩
          · have hb1 := cell18 X9.out 4 (.bool true) rfl
            have hb2 := cell18 X9.out 5 (.int .i64 2) rfl
            have hm0 : mayB 0 = true := rfl
            have hm1 : mayB 2 = true := rfl
            have HE : Hid (thrE (id, pt, l) 0 2 = 0) := Lib.hid (by rw [HE1.out, show lieS pt 0 2 = 2 from by simp [lieS, h0]]; rfl)
            have HL : Hid (thrL (id, pt, l) 0 2 = 2) := Lib.hid (by rw [HL0.out, HE.out, show lieS pt 0 2 = 2 from by simp [lieS, h0]]; rfl)
            clear HE1 HL0
            go_wp2_with (refine (may_any _ _).mono ?_; rintro e w' ⟨rfl, rfl⟩)
            refine bodyPost_ret (results_tmp2 rfl _ _ _) rfl ?_
            exact ⟨by rw [HE.out, HL.out]; rfl, B8.out⟩
          · have hb1 := cell18 X9.out 6 (.bool true) rfl
            have hb2 := cell18 X9.out 7 (.int .i64 1) rfl
            have hm0 : mayB 1 = true := rfl
            have hm1 : mayB 0 = true := rfl
            have HE : Hid (thrE (id, pt, l) 1 0 = 0) := Lib.hid (by rw [HE1.out, show lieS pt 1 0 = 1 from by simp [lieS, h0]]; rfl)
            have HL : Hid (thrL (id, pt, l) 1 0 = 1) := Lib.hid (by rw [HL0.out, HE.out, show lieS pt 1 0 = 1 from by simp [lieS, h0]]; rfl)
            clear HE1 HL0
            go_wp2_with (refine (may_any _ _).mono ?_; rintro e w' ⟨rfl, rfl⟩)
            refine bodyPost_ret (results_tmp2 rfl _ _ _) rfl ?_
            exact ⟨by rw [HE.out, HL.out]; rfl, B8.out⟩
          · have hb1 := cell18 X9.out 8 (.bool false) rfl
            have hb2 := cell18 X9.out 9 (.int .i64 0) rfl
            have hm0 : mayB 1 = true := rfl
            have hm1 : mayB 1 = true := rfl
            have HE : Hid (thrE (id, pt, l) 1 1 = 2) := Lib.hid (by rw [HE1.out, show lieS pt 1 1 = -1 from by simp [lieS, h0]]; rfl)
            have HL : Hid (thrL (id, pt, l) 1 1 = 0) := Lib.hid (by rw [HL0.out, HE.out]; rfl)
            clear HE1 HL0
            go_wp2_with (refine (may_any _ _).mono ?_; rintro e w' ⟨rfl, rfl⟩)
            refine bodyPost_ret (results_tmp2 rfl _ _ _) rfl ?_
            exact ⟨by rw [HE.out, HL.out]; rfl, B8.out⟩
          · have hb1 := cell18 X9.out 10 (.bool false) rfl
            have hb2 := cell18 X9.out 11 (.int .i64 0) rfl
            have hm0 : mayB 1 = true := rfl
            have hm1 : mayB 2 = true := rfl
            have HE : Hid (thrE (id, pt, l) 1 2 = 2) := Lib.hid (by rw [HE1.out, show lieS pt 1 2 = -1 from by simp [lieS, h0]]; rfl)
            have HL : Hid (thrL (id, pt, l) 1 2 = 0) := Lib.hid (by rw [HL0.out, HE.out]; rfl)
            clear HE1 HL0
            go_wp2_with (refine (may_any _ _).mono ?_; rintro e w' ⟨rfl, rfl⟩)
            refine bodyPost_ret (results_tmp2 rfl _ _ _) rfl ?_
            exact ⟨by rw [HE.out, HL.out]; rfl, B8.out⟩
          · have hb1 := cell18 X9.out 12 (.bool true) rfl
            have hb2 := cell18 X9.out 13 (.int .i64 2) rfl
            have hm0 : mayB 2 = true := rfl
            have hm1 : mayB 0 = true := rfl
            have HE : Hid (thrE (id, pt, l) 2 0 = 0) := Lib.hid (by rw [HE1.out, show lieS pt 2 0 = 2 from by simp [lieS, h0]]; rfl)
            have HL : Hid (thrL (id, pt, l) 2 0 = 2) := Lib.hid (by rw [HL0.out, HE.out, show lieS pt 2 0 = 2 from by simp [lieS, h0]]; rfl)
            clear HE1 HL0
            go_wp2_with (refine (may_any _ _).mono ?_; rintro e w' ⟨rfl, rfl⟩)
            refine bodyPost_ret (results_tmp2 rfl _ _ _) rfl ?_
            exact ⟨by rw [HE.out, HL.out]; rfl, B8.out⟩
          · have hb1 := cell18 X9.out 14 (.bool false) rfl
            have hb2 := cell18 X9.out 15 (.int .i64 0) rfl
            have hm0 : mayB 2 = true := rfl
            have hm1 : mayB 1 = true := rfl
            have HE : Hid (thrE (id, pt, l) 2 1 = 2) := Lib.hid (by rw [HE1.out, show lieS pt 2 1 = -1 from by simp [lieS, h0]]; rfl)
            have HL : Hid (thrL (id, pt, l) 2 1 = 0) := Lib.hid (by rw [HL0.out, HE.out]; rfl)
            clear HE1 HL0
            go_wp2_with (refine (may_any _ _).mono ?_; rintro e w' ⟨rfl, rfl⟩)
            refine bodyPost_ret (results_tmp2 rfl _ _ _) rfl ?_
            exact ⟨by rw [HE.out, HL.out]; rfl, B8.out⟩
          · have hb1 := cell18 X9.out 16 (.bool false) rfl
            have hb2 := cell18 X9.out 17 (.int .i64 0) rfl
            have hm0 : mayB 2 = true := rfl
            have hm1 : mayB 2 = true := rfl
            have HE : Hid (thrE (id, pt, l) 2 2 = 2) := Lib.hid (by rw [HE1.out, show lieS pt 2 2 = -1 from by simp [lieS, h0]]; rfl)
            have HL : Hid (thrL (id, pt, l) 2 2 = 0) := Lib.hid (by rw [HL0.out, HE.out]; rfl)
            clear HE1 HL0
            go_wp2_with (refine (may_any _ _).mono ?_; rintro e w' ⟨rfl, rfl⟩)
            refine bodyPost_ret (results_tmp2 rfl _ _ _) rfl ?_
            exact ⟨by rw [HE.out, HL.out]; rfl, B8.out⟩
      · have HE : Hid (thrE (id, pt, l) a b = 2) := Lib.hid (by
          rw [HE1.out, show lieS pt a b = -1 from by
            rw [lieS]
            split
            · rw [if_neg (by omega)]
            · rw [if_neg (by omega), if_neg (by rintro ⟨rfl, h⟩; exact hb (.inl rfl))]]
          rfl)
        have HL : Hid (thrL (id, pt, l) a b = 0) := Lib.hid (by rw [HL0.out, HE.out]; rfl)
        have hm0 : mayB a = true := decide_eq_true (by omega)
        have hm1 : mayB b = false := decide_eq_false (by omega)
        clear HE1 HL0 ha hb
        go_wp2_with (refine (may_any _ _).mono ?_; rintro e w' ⟨rfl, rfl⟩)
        refine bodyPost_ret (results_tmp2 rfl _ _ _) rfl ?_
        exact ⟨by rw [HE.out, HL.out]; rfl, B8.out⟩
    · have HE : Hid (thrE (id, pt, l) a b = 2) := Lib.hid (by
        rw [HE1.out, show lieS pt a b = -1 from by
          rw [lieS]
          split
          · rw [if_neg (by omega)]
          · rw [if_neg (by omega), if_neg (by omega)]]
        rfl)
      have HL : Hid (thrL (id, pt, l) a b = 0) := Lib.hid (by rw [HL0.out, HE.out]; rfl)
      have hm0 : mayB a = false := decide_eq_false (by omega)
      clear HE1 HL0 ha
      go_wp2_with (refine (may_any _ _).mono ?_; rintro e w' ⟨rfl, rfl⟩)
      refine bodyPost_ret (results_tmp2 rfl _ _ _) rfl ?_
      exact ⟨by rw [HE.out, HL.out]; rfl, B8.out⟩
end Go.Proofs.Ytnhglgpmmipjaaa
