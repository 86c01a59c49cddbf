/-
 The program's package track: Out.
 Conditions: none.
-/
import Derived.Test.YtccbdpeicemnjaaTTrkPE
set_option linter.unusedVariables false
set_option linter.unusedSimpArgs false
set_option maxRecDepth 100000
namespace Go.Proofs.Ytccbdpeicemnjaa
open Go.RowKit

set_option maxHeartbeats 8000000 in
theorem pout_any (v : Value) (s : Sec) (a lie : Int) (w : World) (h : SecV w w.heap.size v s) :
  Calls Try.prog 23 #[v, .int .i64 a, .int .i64 lie] w fun e w' => e = .returned (.tuple #[.int .i64 (outV s a lie), .int .i64 (outE s a lie)]) ∧ Below w.heap.size w w' := by
 have H := Lib.hid h
 obtain ⟨u, rfl, hu⟩ := h
 obtain ⟨A, c, rfl, -, -⟩ := hu.slice
 obtain ⟨id, pt, l⟩ := s
 dsimp only at hu H ⊢
 obtain ⟨n, hn⟩ : ∃ n, n = l.length := ⟨_, rfl⟩
 have HE0 : Hid (shapedB (id, pt, l) = false → outE (id, pt, l) a lie = 8 ∧ outV (id, pt, l) a lie = 0) := Lib.hid (fun h => by
  have e : outE (id, pt, l) a lie = 8 := by rw [outE, h]; rfl
  rw [outV, e]; exact ⟨rfl, rfl⟩)
 have HE1 : Hid (shapedB (id, pt, l) = true → outE (id, pt, l) a lie = (if idxO (id, pt, l) a lie < 0 then 2 else 0) ∧ outV (id, pt, l) a lie = (if idxO (id, pt, l) a lie < 0 then 0 else idxO (id, pt, l) a lie)) := Lib.hid (fun h => outE_idx h)
 have HWY : Hid (waysOf (id, pt, l) = if shapedB (id, pt, l) then (if pt = 0 then ways1 else ways2) else ways0) := Lib.hid rfl
 have HLEN : Hid (shapedB (id, pt, l) = true → (pt = 0 ∧ l.length = 2) ∨ (¬ pt = 0 ∧ l.length = 3)) := Lib.hid (fun h => by
  rw [shapedB] at h
  by_cases h0 : pt = 0
  ·rw [if_pos h0] at h; exact .inl ⟨h0, of_decide_eq_true h⟩
  ·rw [if_neg h0] at h; simp at h; exact .inr ⟨h0, h.2.2⟩)
 rw [← hn] at H ⊢
 clear hu hn
 have hq0 := heap_alloc_self w (.cells #[.int .i64 id, .int .i64 pt, .slice A n c] 65)
 have hqb := below_new w (.cells #[.int .i64 id, .int .i64 pt, .slice A n c] 65)
 go_enter Try.func23, Try.ntmps23
 go_upto_region 1 with fail
 generalize w.alloc (.cells #[.int .i64 id, .int .i64 pt, .slice A n c] 65) = q at hq0 hqb ⊢
 have X0 := Lib.hid hq0
 have QB := Lib.hid hqb
 clear hq0 hqb
 obtain ⟨k0, k1, k2⟩ := cell3_of X0.out
 go_wp2_with fail
 refine (through_ways _ (id, pt, l) q ((H.out.below QB.out).more QB.out.size)).mono ?_
 rintro e w1 ⟨rfl, b1⟩
 have B1 := Lib.hid (QB.out.trans (b1.mono QB.out.size))
 clear b1 k0 k1 k2
 have hz0 := heap_alloc_self w1 (.cells (waysOf (id, pt, l)) 103)
 have hzb := below_new w1 (.cells (waysOf (id, pt, l)) 103)
 obtain ⟨q8, hq8⟩ : ∃ q8, q8 = w1.alloc (.cells (waysOf (id, pt, l)) 103) := ⟨_, rfl⟩
 rw [← hq8] at hz0 hzb
 have hi18 : (Try.prog.info? 103).map (·.size) = some 18 := by kernel_rfl
 have h18 : (waysOf (id, pt, l)).size = 18 ∧ (waysOf (id, pt, l)).all (·.oneCell') = true := by
  rw [waysOf]
  split
  ·split
   ·exact ⟨rfl, ways1_one⟩
   ·exact ⟨rfl, ways2_one⟩
  ·exact ⟨rfl, ways0_one⟩
 have H18 := Lib.hid h18
 have HI18 := Lib.hid hi18
 clear h18 hi18
 generalize hW : waysOf (id, pt, l) = W18 at hz0 hzb hq8 H18 HWY ⊢
 clear hW
 generalize hs : shapedB (id, pt, l) = sh at HE0 HE1 HWY HLEN ⊢
 clear hs
 go_upto_region 2 with ((with_reducible show wpList _ _ _ (⟨none, _, _, _, _, _⟩ :: _) _ _); refine wpList_store_row7 (c := ways0) rfl _ (.tmp 8) (.tmp 13) rfl w1.heap.size rfl rfl (heap_alloc_self _ _) (by rw [H18.out.1]; exact HI18.out) (by rw [H18.out.1]; rfl) H18.out.2 ?_; rw [World.setRow_alloc_new])
 rw [← hq8]
 have B8 := Lib.hid (B1.out.trans (hzb.mono B1.out.size))
 have X8 := Lib.hid hz0
 generalize w1.heap.size = p8 at X8 ⊢
 clear hz0 hzb hq8
 cases sh with
 | false =>
  have HE := Lib.hid (HE0.out rfl)
  clear HE0 HE1 HWY HLEN
  go_wp2_with fail
  refine bodyPost_ret (results_tmp2 rfl _ _ _) rfl ?_
  exact ⟨by rw [HE.out.1, HE.out.2]; rfl, B8.out⟩
 | true =>
  have HE := Lib.hid (HE1.out rfl)
  have HL := Lib.hid (HLEN.out rfl)
  have HW1 : Hid (W18 = if pt = 0 then ways1 else ways2) := Lib.hid (HWY.out.trans (if_pos rfl))
  clear HE0 HE1 HWY HLEN
  by_cases ha : a = 0 ∨ a = 1 ∨ a = 2
  ·have CALL : Hid (∀ (off : Nat) (zs : List Wy7), ListIn 2 WayR q8 q8.heap.size (.slice (some ⟨p8, off, none⟩) 3 3) zs → Calls Try.prog 51 #[.slice (some ⟨p8, off, none⟩) 3 3, .agg #[.bool true, .int .i64 lie]] q8 fun e w' => e = .returned (.int .i64 (idxW zs (true, lie))) ∧ Below q8.heap.size q8 w') := Lib.hid (fun off zs hz => index7_any _ zs true lie q8 hz)
   rcases HL.out with ⟨h0, hl⟩ | ⟨h0, hl⟩
   ·subst h0
    have X9 : Hid (q8.heap[p8]? = some (.cells ways1 103 (0, 0))) := Lib.hid (by rw [X8.out, HW1.out, if_pos rfl])
    clear X8 HW1
    rcases ha with rfl | rfl | rfl
    ·have hI : idxW [(false, 0), (true, 0), (false, 0)] (true, lie) = idxO (id, 0, l) 0 lie := idx_1_0 id lie l hl
     have HCA := CALL.out 0 [(false, 0), (true, 0), (false, 0)] (ways_row X9.out 0 (false, 0) (true, 0) (false, 0) rfl rfl rfl rfl rfl rfl)
     rw [hI] at HCA
     have HC := Lib.hid HCA
     clear hI HCA CALL
     have hm0 : mayB 0 = true := rfl
     generalize idxO (id, 0, l) 0 lie = ix at HE HC
     go_wp2_with fail
     refine (may_any _ _).mono ?_
     rintro e w' ⟨rfl, rfl⟩
     go_wp2_with fail
     refine HC.out.mono ?_
     rintro e w2 ⟨rfl, b2⟩
     have B2 := Lib.hid (B8.out.trans (b2.mono B8.out.size))
     clear b2
     by_cases hix : ix < 0
     ·have dix : decide (ix < 0) = true := decide_eq_true hix
      have HZ := Lib.hid (And.intro (HE.out.1.trans (if_pos hix)) (HE.out.2.trans (if_pos hix)))
      go_wp2_with fail
      refine bodyPost_ret (results_tmp2 rfl _ _ _) rfl ?_
      exact ⟨by rw [HZ.out.1, HZ.out.2]; rfl, B2.out⟩
     ·have dix : decide (ix < 0) = false := decide_eq_false hix
      have HZ := Lib.hid (And.intro (HE.out.1.trans (if_neg hix)) (HE.out.2.trans (if_neg hix)))
      go_wp2_with fail
      refine bodyPost_ret (results_tmp2 rfl _ _ _) rfl ?_
      exact ⟨by rw [HZ.out.1, HZ.out.2]; rfl, B2.out⟩
    ·have hI : idxW [(true, 0), (false, 0), (false, 0)] (true, lie) = idxO (id, 0, l) 1 lie := idx_1_1 id lie l hl
     have HCA := CALL.out 6 [(true, 0), (false, 0), (false, 0)] (ways_row X9.out 6 (true, 0) (false, 0) (false, 0) rfl rfl rfl rfl rfl rfl)
     rw [hI] at HCA
     have HC := Lib.hid HCA
     clear hI HCA CALL
     have hm0 : mayB 1 = true := rfl
     generalize idxO (id, 0, l) 1 lie = ix at HE HC
     go_wp2_with fail
     refine (may_any _ _).mono ?_
     rintro e w' ⟨rfl, rfl⟩
     go_wp2_with fail
     refine HC.out.mono ?_
     rintro e w2 ⟨rfl, b2⟩
     have B2 := Lib.hid (B8.out.trans (b2.mono B8.out.size))
     clear b2
     by_cases hix : ix < 0
     ·have dix : decide (ix < 0) = true := decide_eq_true hix
      have HZ := Lib.hid (And.intro (HE.out.1.trans (if_pos hix)) (HE.out.2.trans (if_pos hix)))
      go_wp2_with fail
      refine bodyPost_ret (results_tmp2 rfl _ _ _) rfl ?_
      exact ⟨by rw [HZ.out.1, HZ.out.2]; rfl, B2.out⟩
     ·have dix : decide (ix < 0) = false := decide_eq_false hix
      have HZ := Lib.hid (And.intro (HE.out.1.trans (if_neg hix)) (HE.out.2.trans (if_neg hix)))
      go_wp2_with fail
      refine bodyPost_ret (results_tmp2 rfl _ _ _) rfl ?_
      exact ⟨by rw [HZ.out.1, HZ.out.2]; rfl, B2.out⟩
    ·have hI : idxW [(false, 0), (false, 0), (false, 0)] (true, lie) = idxO (id, 0, l) 2 lie := idx_1_2 id lie l hl
     have HCA := CALL.out 12 [(false, 0), (false, 0), (false, 0)] (ways_row X9.out 12 (false, 0) (false, 0) (false, 0) rfl rfl rfl rfl rfl rfl)
     rw [hI] at HCA
     have HC := Lib.hid HCA
     clear hI HCA CALL
     have hm0 : mayB 2 = true := rfl
     generalize idxO (id, 0, l) 2 lie = ix at HE HC
     go_wp2_with fail
     refine (may_any _ _).mono ?_
     rintro e w' ⟨rfl, rfl⟩
     go_wp2_with fail
     refine HC.out.mono ?_
     rintro e w2 ⟨rfl, b2⟩
     have B2 := Lib.hid (B8.out.trans (b2.mono B8.out.size))
     clear b2
     by_cases hix : ix < 0
     ·have dix : decide (ix < 0) = true := decide_eq_true hix
      have HZ := Lib.hid (And.intro (HE.out.1.trans (if_pos hix)) (HE.out.2.trans (if_pos hix)))
      go_wp2_with fail
      refine bodyPost_ret (results_tmp2 rfl _ _ _) rfl ?_
      exact ⟨by rw [HZ.out.1, HZ.out.2]; rfl, B2.out⟩
     ·have dix : decide (ix < 0) = false := decide_eq_false hix
      have HZ := Lib.hid (And.intro (HE.out.1.trans (if_neg hix)) (HE.out.2.trans (if_neg hix)))
      go_wp2_with fail
      refine bodyPost_ret (results_tmp2 rfl _ _ _) rfl ?_
      exact ⟨by rw [HZ.out.1, HZ.out.2]; rfl, B2.out⟩
   ·have X9 : Hid (q8.heap[p8]? = some (.cells ways2 103 (0, 0))) := Lib.hid (by rw [X8.out, HW1.out, if_neg h0])
    clear X8 HW1
    rcases ha with rfl | rfl | rfl
    ·have hI : idxW [(false, 0), (true, 1), (true, 2)] (true, lie) = idxO (id, pt, l) 0 lie := idx_2_0 id pt lie l hl h0
     have HCA := CALL.out 0 [(false, 0), (true, 1), (true, 2)] (ways_row X9.out 0 (false, 0) (true, 1) (true, 2) rfl rfl rfl rfl rfl rfl)
     rw [hI] at HCA
     have HC := Lib.hid HCA
     clear hI HCA CALL
     have hm0 : mayB 0 = true := rfl
     generalize idxO (id, pt, l) 0 lie = ix at HE HC
     go_wp2_with fail
     refine (may_any _ _).mono ?_
     rintro e w' ⟨rfl, rfl⟩
     go_wp2_with fail
     refine HC.out.mono ?_
     rintro e w2 ⟨rfl, b2⟩
     have B2 := Lib.hid (B8.out.trans (b2.mono B8.out.size))
     clear b2
     by_cases hix : ix < 0
     ·have dix : decide (ix < 0) = true := decide_eq_true hix
      have HZ := Lib.hid (And.intro (HE.out.1.trans (if_pos hix)) (HE.out.2.trans (if_pos hix)))
      go_wp2_with fail
      refine bodyPost_ret (results_tmp2 rfl _ _ _) rfl ?_
      exact ⟨by rw [HZ.out.1, HZ.out.2]; rfl, B2.out⟩
     ·have dix : decide (ix < 0) = false := decide_eq_false hix
      have HZ := Lib.hid (And.intro (HE.out.1.trans (if_neg hix)) (HE.out.2.trans (if_neg hix)))
      go_wp2_with fail
      refine bodyPost_ret (results_tmp2 rfl _ _ _) rfl ?_
      exact ⟨by rw [HZ.out.1, HZ.out.2]; rfl, B2.out⟩
    ·have hI : idxW [(true, 1), (false, 0), (false, 0)] (true, lie) = idxO (id, pt, l) 1 lie := idx_2_1 id pt lie l hl h0
     have HCA := CALL.out 6 [(true, 1), (false, 0), (false, 0)] (ways_row X9.out 6 (true, 1) (false, 0) (false, 0) rfl rfl rfl rfl rfl rfl)
     rw [hI] at HCA
     have HC := Lib.hid HCA
     clear hI HCA CALL
     have hm0 : mayB 1 = true := rfl
     generalize idxO (id, pt, l) 1 lie = ix at HE HC
     go_wp2_with fail
     refine (may_any _ _).mono ?_
     rintro e w' ⟨rfl, rfl⟩
     go_wp2_with fail
     refine HC.out.mono ?_
     rintro e w2 ⟨rfl, b2⟩
     have B2 := Lib.hid (B8.out.trans (b2.mono B8.out.size))
     clear b2
     by_cases hix : ix < 0
     ·have dix : decide (ix < 0) = true := decide_eq_true hix
      have HZ := Lib.hid (And.intro (HE.out.1.trans (if_pos hix)) (HE.out.2.trans (if_pos hix)))
      go_wp2_with fail
      refine bodyPost_ret (results_tmp2 rfl _ _ _) rfl ?_
      exact ⟨by rw [HZ.out.1, HZ.out.2]; rfl, B2.out⟩
     ·have dix : decide (ix < 0) = false := decide_eq_false hix
      have HZ := Lib.hid (And.intro (HE.out.1.trans (if_neg hix)) (HE.out.2.trans (if_neg hix)))
      go_wp2_with fail
      refine bodyPost_ret (results_tmp2 rfl _ _ _) rfl ?_
      exact ⟨by rw [HZ.out.1, HZ.out.2]; rfl, B2.out⟩
    ·have hI : idxW [(true, 2), (false, 0), (false, 0)] (true, lie) = idxO (id, pt, l) 2 lie := idx_2_2 id pt lie l hl h0
     have HCA := CALL.out 12 [(true, 2), (false, 0), (false, 0)] (ways_row X9.out 12 (true, 2) (false, 0) (false, 0) rfl rfl rfl rfl rfl rfl)
     rw [hI] at HCA
     have HC := Lib.hid HCA
     clear hI HCA CALL
     have hm0 : mayB 2 = true := rfl
     generalize idxO (id, pt, l) 2 lie = ix at HE HC
     go_wp2_with fail
     refine (may_any _ _).mono ?_
     rintro e w' ⟨rfl, rfl⟩
     go_wp2_with fail
     refine HC.out.mono ?_
     rintro e w2 ⟨rfl, b2⟩
     have B2 := Lib.hid (B8.out.trans (b2.mono B8.out.size))
     clear b2
     by_cases hix : ix < 0
     ·have dix : decide (ix < 0) = true := decide_eq_true hix
      have HZ := Lib.hid (And.intro (HE.out.1.trans (if_pos hix)) (HE.out.2.trans (if_pos hix)))
      go_wp2_with fail
      refine bodyPost_ret (results_tmp2 rfl _ _ _) rfl ?_
      exact ⟨by rw [HZ.out.1, HZ.out.2]; rfl, B2.out⟩
     ·have dix : decide (ix < 0) = false := decide_eq_false hix
      have HZ := Lib.hid (And.intro (HE.out.1.trans (if_neg hix)) (HE.out.2.trans (if_neg hix)))
      go_wp2_with fail
      refine bodyPost_ret (results_tmp2 rfl _ _ _) rfl ?_
      exact ⟨by rw [HZ.out.1, HZ.out.2]; rfl, B2.out⟩
  ·have hix := idx_other id pt a lie l ha (by rcases HL.out with ⟨_, h⟩ | ⟨_, h⟩ <;> omega)
   have HZ : Hid (outE (id, pt, l) a lie = 2 ∧ outV (id, pt, l) a lie = 0) := Lib.hid (by rw [HE.out.1, HE.out.2, hix]; exact ⟨rfl, rfl⟩)
   have hm0 : mayB a = false := decide_eq_false (by omega)
   clear HE hix ha
   go_wp2_with (refine (may_any _ _).mono ?_; rintro e w' ⟨rfl, rfl⟩)
   refine bodyPost_ret (results_tmp2 rfl _ _ _) rfl ?_
   exact ⟨by rw [HZ.out.1, HZ.out.2]; rfl, B8.out⟩
end Go.Proofs.Ytccbdpeicemnjaa
