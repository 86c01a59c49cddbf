/-
  The document's own functions: Crash.
  Conditions: none.
-/
import Derived.Test.YtdpjdobmnkadjaaRefSync
set_option linter.unusedVariables false
set_option linter.unusedSimpArgs false
namespace Go.Proofs.Ytdpjdobmnkadjaa
open Go.RowKit

theorem keptK_fit {ws : List Wr} {ks : List Int} (h : ks.length = ws.length) : keptK ws ks = ks.map Int.toNat := by
  rw [keptK]
  split
  · next e => subst e; rw [all128, ← h]; rfl
  · rfl
/-- The error that the loop over the numbers leaves. -/
def fitE (ks : List Int) (i : Nat) : Int := if ∀ j, ∀ h : j < ks.length, j < i → fitK ks[j] then 0 else 2

set_option maxHeartbeats 4000000 in
theorem rcrash_bad (d kv : Value) (ss : List Bs) (ws : List Wr) (ks : List Int) (w : World) (h : DiskIn w w.heap.size d ss ws) (hk : NumsIn w w.heap.size kv ks) (hm : mayB ss ws = false) :
    Calls Try.prog 28 #[d, kv] w fun e w' => ∃ d', e = .returned (.tuple #[d', .int .i64 (crashE ss ws ks)]) ∧ DiskAt w' w.heap.size d' (crashS ss ws ks) [] ∧ Below w.heap.size w w' := by
  obtain ⟨v1, v2, rfl, h1, h2⟩ := id h
  have H := Lib.hid h
  have KN := Lib.hid hk
  obtain ⟨A2, c2, rfl, -, -, -, -⟩ := h2
  obtain ⟨A3, c3, rfl, -, -, -, -⟩ := hk
  have HE : Hid (crashE ss ws ks = 8) := Lib.hid (by rw [crashE, hm]; rfl)
  have hq := two_boxes w (.cells #[v1, .slice A2 ws.length c2] 25) (.cells #[.slice none 0 0, .slice none 0 0] 25)
  have hmax : (ks.length : Int) ≤ 9223372036854775807 := by have := KN.out.le; unfold maxLen at *; omega
  clear h1 h
  go_enter Try.func28, Try.ntmps28
  go_wp2_with fail
  generalize (w.alloc (.cells #[v1, .slice A2 ws.length c2] 25)).alloc (.cells #[.slice none 0 0, .slice none 0 0] 25) = q at hq ⊢
  obtain ⟨q0, q1, qb⟩ := hq
  have QB := Lib.hid qb
  refine (rcheck_any _ ss ws q ((H.out.below QB.out).more QB.out.size)).mono ?_
  rw [hm]
  rintro e w1 ⟨rfl, b1⟩
  have B1 := Lib.hid (QB.out.trans (b1.mono QB.out.size))
  have C0 := Lib.hid ((b1.block _ (heap_lt q0)).trans q0)
  have C1 := Lib.hid ((b1.block _ (heap_lt q1)).trans q1)
  clear q0 q1 qb b1 QB hm
  simp only [Bool.false_eq_true, ↓reduceIte]
  go_wp2_with fail
  go_loopw [6, 7] (fun s6 s7 wr => s6 = .int .i64 8 ∧ s7 = .int .i64 0 ∧ wr = w1) (fun _ _ _ => 0)
  case atStart => exact ⟨rfl, rfl, rfl⟩
  case round =>
    obtain ⟨rfl, rfl, rfl⟩ := hrel
    obtain ⟨k0, k1⟩ := cell2_of C0.out
    obtain ⟨r0, r1⟩ := cell2_of C1.out
    have f0 := frozen2_of C1.out 0
    have f1 := frozen2_of C1.out 1
    by_cases hpos : (0 : Int) < ks.length
    · go_wp2_with fail
      refine bodyPost_ret (v := .tuple #[.agg #[.slice none 0 0, .slice none 0 0], .int .i64 8]) ?_ rfl ⟨_, by rw [HE.out], ?_, below_set2 B1.out (by omega) _ _⟩
      · exact results_2_tmp rfl _ _ (w.heap.size + 1) rfl (zero_kept C1.out) Try.underlying25 infoDisk2 _ rfl
      · rw [crashS, HE.out]; exact DiskAt.nil_ _ _
    · have hpos' : decide ((0 : Int) < ks.length) = false := decide_eq_false hpos
      go_wp2_with fail
      refine bodyPost_ret (v := .tuple #[.agg #[.slice none 0 0, .slice none 0 0], .int .i64 8]) ?_ rfl ⟨_, by rw [HE.out], ?_, below_set2 B1.out (by omega) _ _⟩
      · exact results_2_tmp rfl _ _ (w.heap.size + 1) rfl (zero_kept C1.out) Try.underlying25 infoDisk2 _ rfl
      · rw [crashS, HE.out]; exact DiskAt.nil_ _ _

set_option maxHeartbeats 8000000 in
theorem rcrash_good (d kv : Value) (ss : List Bs) (ws : List Wr) (ks : List Int) (w : World) (h : DiskIn w w.heap.size d ss ws) (hk : NumsIn w w.heap.size kv ks) (hm : mayB ss ws = true) :
    Calls Try.prog 28 #[d, kv] w fun e w' => ∃ d', e = .returned (.tuple #[d', .int .i64 (crashE ss ws ks)]) ∧ DiskAt w' w.heap.size d' (crashS ss ws ks) [] ∧ Below w.heap.size w w' := by
  obtain ⟨v1, v2, rfl, h1, h2⟩ := id h
  have H := Lib.hid h
  have KN := Lib.hid hk
  have HM := Lib.hid hm
  obtain ⟨A2, c2, rfl, -, -, -, -⟩ := h2
  obtain ⟨A3, c3, rfl, -, -, -, -⟩ := hk
  have hq := two_boxes w (.cells #[v1, .slice A2 ws.length c2] 25) (.cells #[.slice none 0 0, .slice none 0 0] 25)
  have hmax : (ks.length : Int) ≤ 9223372036854775807 := by have := KN.out.le; unfold maxLen at *; omega
  have hmaxw : (ws.length : Int) ≤ 256 := by have := (mayB_iff.1 hm).m; omega
  clear h1 h
  go_enter Try.func28, Try.ntmps28
  go_wp2_with fail
  generalize (w.alloc (.cells #[v1, .slice A2 ws.length c2] 25)).alloc (.cells #[.slice none 0 0, .slice none 0 0] 25) = q at hq ⊢
  obtain ⟨q0, q1, qb⟩ := hq
  have QB := Lib.hid qb
  refine (rcheck_any _ ss ws q ((H.out.below QB.out).more QB.out.size)).mono ?_
  rw [hm]
  rintro e w1 ⟨rfl, b1⟩
  have B1 := Lib.hid (QB.out.trans (b1.mono QB.out.size))
  have C0 := Lib.hid ((b1.block _ (heap_lt q0)).trans q0)
  have C1 := Lib.hid ((b1.block _ (heap_lt q1)).trans q1)
  clear q0 q1 qb b1 QB hm
  simp only [↓reduceIte]
  go_wp2_with fail
  go_loopw [6, 7] (fun s6 s7 wr => ∃ (i : Nat) (g : Bool), i ≤ ks.length ∧ s7 = .int .i64 i ∧ s6 = .int .i64 (if g then 0 else 2) ∧ (g = true → ∀ j, ∀ hj : j < ks.length, j < i → fitK ks[j]) ∧ (g = false → ∃ j, ∃ hj : j < ks.length, ¬ fitK ks[j]) ∧ wr = w1) (fun _ s7 _ => ks.length - (intOf s7).toNat)
  case atStart => exact ⟨0, true, by omega, rfl, rfl, fun _ j hj h0 => by omega, fun h => (by cases h), rfl⟩
  case round =>
    obtain ⟨i, g, hi, rfl, rfl, hyes, hno, rfl⟩ := hrel
    have YES := Lib.hid hyes
    have NO := Lib.hid hno
    clear hyes hno
    obtain ⟨k0, k1⟩ := cell2_of C0.out
    obtain ⟨r0, r1⟩ := cell2_of C1.out
    have f0 := frozen2_of C1.out 0
    have f1 := frozen2_of C1.out 1
    cases g with
    | false =>
      obtain ⟨j, hj, hnf⟩ := NO.out (by first | rfl | trivial)
      simp only [Bool.false_eq_true, ↓reduceIte]
      by_cases hl : ks.length = ws.length
      · have HE : Hid (crashE ss ws ks = 2) := Lib.hid (by rw [crashE, HM.out, if_pos rfl, if_pos hl, if_neg (fun h => hnf (h _ (List.getElem_mem hj)))])
        have hlb : ((ks.length : Int) != ws.length) = false := by rw [bne_eq_false_iff_eq]; omega
        clear hl hj hnf
        by_cases hpos : (i : Int) < ks.length
        · go_wp2_with fail
          refine bodyPost_ret (v := .tuple #[.agg #[.slice none 0 0, .slice none 0 0], .int .i64 2]) ?_ rfl ⟨_, by rw [HE.out], ?_, below_set2 B1.out (by omega) _ _⟩
          · exact results_2_tmp rfl _ _ (w.heap.size + 1) rfl (zero_kept C1.out) Try.underlying25 infoDisk2 _ rfl
          · rw [crashS, HE.out]; exact DiskAt.nil_ _ _
        · have hpos' : decide ((i : Int) < ks.length) = false := decide_eq_false hpos
          go_wp2_with fail
          refine bodyPost_ret (v := .tuple #[.agg #[.slice none 0 0, .slice none 0 0], .int .i64 2]) ?_ rfl ⟨_, by rw [HE.out], ?_, below_set2 B1.out (by omega) _ _⟩
          · exact results_2_tmp rfl _ _ (w.heap.size + 1) rfl (zero_kept C1.out) Try.underlying25 infoDisk2 _ rfl
          · rw [crashS, HE.out]; exact DiskAt.nil_ _ _
      · have HE : Hid (crashE ss ws ks = 4) := Lib.hid (by rw [crashE, HM.out, if_pos rfl, if_neg hl])
        have hlb : ((ks.length : Int) == ws.length) = false := by rw [beq_eq_false_iff_ne]; omega
        clear hl hj hnf
        by_cases hpos : (i : Int) < ks.length
        · go_wp2_with fail
          refine bodyPost_ret (v := .tuple #[.agg #[.slice none 0 0, .slice none 0 0], .int .i64 4]) ?_ rfl ⟨_, by rw [HE.out], ?_, below_set2 B1.out (by omega) _ _⟩
          · exact results_2_tmp rfl _ _ (w.heap.size + 1) rfl (zero_kept C1.out) Try.underlying25 infoDisk2 _ rfl
          · rw [crashS, HE.out]; exact DiskAt.nil_ _ _
        · have hpos' : decide ((i : Int) < ks.length) = false := decide_eq_false hpos
          go_wp2_with fail
          refine bodyPost_ret (v := .tuple #[.agg #[.slice none 0 0, .slice none 0 0], .int .i64 4]) ?_ rfl ⟨_, by rw [HE.out], ?_, below_set2 B1.out (by omega) _ _⟩
          · exact results_2_tmp rfl _ _ (w.heap.size + 1) rfl (zero_kept C1.out) Try.underlying25 infoDisk2 _ rfl
          · rw [crashS, HE.out]; exact DiskAt.nil_ _ _
    | true =>
      simp only [↓reduceIte]
      by_cases hlt : i < ks.length
      · have hlt' : (i : Int) < ks.length := by omega
        obtain ⟨b, off, rfl, hbb, hc⟩ := (KN.out.below B1.out).at hlt
        by_cases ha : 0 ≤ ks[i] ∧ ks[i] < 129
        · have hda : decide (0 ≤ ks[i] ∧ ks[i] < 129) = true := decide_eq_true ha
          have HA := Lib.hid (show fitK ks[i] from ha)
          clear ha
          go_wp2_with fail
          refine (number_any _ _ _).mono ?_
          rintro e w' ⟨rfl, rfl⟩
          go_wp2_with fail
          go_roundw
          case measure => simp [intOf]; omega
          case rel => exact ⟨i + 1, true, by omega, by go_num, rfl, fun _ j hj h' => by
            rcases Nat.lt_or_ge j i with h2 | h2
            · exact YES.out (by first | rfl | trivial) j hj h2
            · obtain rfl : j = i := by omega
              exact HA.out, fun h => (by cases h), by first | rfl | trivial⟩
        · have hda : decide (0 ≤ ks[i] ∧ ks[i] < 129) = false := decide_eq_false ha
          have HN : Hid (¬ fitK ks[i]) := Lib.hid ha
          clear ha
          go_wp2_with fail
          refine (number_any _ _ _).mono ?_
          rintro e w' ⟨rfl, rfl⟩
          go_wp2_with fail
          go_roundw
          case measure => simp [intOf]; omega
          case rel => exact ⟨i + 1, false, by omega, by go_num, rfl, fun h => (by cases h), fun _ => ⟨i, hlt, HN.out⟩, by first | rfl | trivial⟩
      · have hpos' : decide ((i : Int) < ks.length) = false := decide_eq_false (by omega)
        by_cases hl : ks.length = ws.length
        · have hlb : ((ks.length : Int) != ws.length) = false := by rw [bne_eq_false_iff_eq]; omega
          have HL := Lib.hid hl
          have hfit : ∀ k ∈ ks, fitK k := fun k hk => by
            obtain ⟨j, hj, rfl⟩ := List.mem_iff_getElem.1 hk
            exact YES.out (by first | rfl | trivial) j hj (by omega)
          have HE := Lib.hid (crashE_zero (mayB_iff.1 HM.out) hl hfit)
          have HC := Lib.hid (comes_any (.agg #[v1, .slice A2 ws.length c2]) (.slice A3 ks.length c3) ss ws ks wr ((H.out.below B1.out).more B1.out.size) ((KN.out.below B1.out).more B1.out.size) (mayB_iff.1 HM.out) (.inr hl))
          clear hfit hl
          go_wp2_with fail
          refine HC.out.mono ?_
          rintro e w2 ⟨y1, rfl, hs, b2⟩
          rw [keptK_fit HL.out] at hs
          obtain ⟨A4, c4, rfl⟩ := secs_slice hs
          have S2 := Lib.hid hs
          have B2 := Lib.hid (B1.out.trans (b2.mono B1.out.size))
          have C4 := Lib.hid ((b2.block _ (heap_lt C1.out)).trans C1.out)
          have L2 := Lib.hid (heap_lt C1.out)
          clear hs b2 k0 k1 r0 r1 f0 f1
          obtain ⟨r0, r1⟩ := cell2_of C4.out
          have f0 := frozen2_of C4.out 0
          have f1 := frozen2_of C4.out 1
          go_wp2_with fail
          refine bodyPost_ret (v := .tuple #[.agg #[.slice A4 (comes ss ws (ks.map Int.toNat)).length c4, .slice none 0 0], .int .i64 0]) ?_ rfl ⟨_, by rw [HE.out], ?_, below_set2 B2.out (by omega) _ _⟩
          · exact results_2_tmp rfl _ _ (w.heap.size + 1) rfl (heap_set2 C4.out _ _) Try.underlying25 infoDisk2 _ rfl
          · rw [crashS, HE.out]; exact ⟨_, _, rfl, (secs_grown S2.out (grown_set2 w2 (w.heap.size + 1) _ _) L2.out).mono (by have := L2.out; omega), WtsAt.nil_ _ _⟩
        · have HE : Hid (crashE ss ws ks = 4) := Lib.hid (by rw [crashE, HM.out, if_pos rfl, if_neg hl])
          have hlb : ((ks.length : Int) == ws.length) = false := by rw [beq_eq_false_iff_ne]; omega
          clear hl
          go_wp2_with fail
          refine bodyPost_ret (v := .tuple #[.agg #[.slice none 0 0, .slice none 0 0], .int .i64 4]) ?_ rfl ⟨_, by rw [HE.out], ?_, below_set2 B1.out (by omega) _ _⟩
          · exact results_2_tmp rfl _ _ (w.heap.size + 1) rfl (zero_kept C1.out) Try.underlying25 infoDisk2 _ rfl
          · rw [crashS, HE.out]; exact DiskAt.nil_ _ _

theorem rcrash_any (d kv : Value) (ss : List Bs) (ws : List Wr) (ks : List Int) (w : World) (h : DiskIn w w.heap.size d ss ws) (hk : NumsIn w w.heap.size kv ks) :
    Calls Try.prog 28 #[d, kv] w fun e w' => ∃ d', e = .returned (.tuple #[d', .int .i64 (crashE ss ws ks)]) ∧ DiskAt w' w.heap.size d' (crashS ss ws ks) [] ∧ Below w.heap.size w w' := by
  cases hm : mayB ss ws with
  | false => exact rcrash_bad d kv ss ws ks w h hk hm
  | true => exact rcrash_good d kv ss ws ks w h hk hm
end Go.Proofs.Ytdpjdobmnkadjaa
