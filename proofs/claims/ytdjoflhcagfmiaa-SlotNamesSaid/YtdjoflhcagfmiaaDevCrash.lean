/-
  Crash, as the program answers it.
  Conditions: none.
-/
import Derived.Test.YtdjoflhcagfmiaaDevSync
set_option linter.unusedVariables false
set_option linter.unusedSimpArgs false
set_option maxRecDepth 100000
namespace Go.Proofs.Ytdjoflhcagfmiaa
open Go.RowKit

theorem three_boxes (w : World) (o1 o2 o3 : Obj) : (((w.alloc o1).alloc o2).alloc o3).heap[w.heap.size]? = some o1 ∧ (((w.alloc o1).alloc o2).alloc o3).heap[w.heap.size + 1]? = some o2 ∧ (((w.alloc o1).alloc o2).alloc o3).heap[w.heap.size + 2]? = some o3 ∧ Below w.heap.size w (((w.alloc o1).alloc o2).alloc o3) := by
  obtain ⟨h1, h2, h3⟩ := two_boxes w o1 o2
  refine ⟨(heap_alloc_lt _ _ (heap_lt h1)).trans h1, (heap_alloc_lt _ _ (heap_lt h2)).trans h2, ?_, h3.alloc h3.size _⟩
  have := heap_alloc_self ((w.alloc o1).alloc o2) o3
  rwa [heap_alloc_size, heap_alloc_size] at this

theorem NumsIn.more {W : World} {B B' : Nat} {v : Value} {ks : List Int} (h : NumsIn W B v ks) (hB : B ≤ B') : NumsIn W B' v ks := by
  obtain ⟨A, cap, h0, h1, h2, hn, h3⟩ := h
  refine ⟨A, cap, h0, h1, h2, hn, fun hp => ?_⟩
  obtain ⟨b, off, ha, hlt, hc⟩ := h3 hp
  exact ⟨b, off, ha, by omega, hc⟩

def fitK (k : Int) : Prop := 0 ≤ k ∧ k < 129
instance (k : Int) : Decidable (fitK k) := inferInstanceAs (Decidable (_ ∧ _))
def crashE (ss : List Bs) (ws : List Wr) (ks : List Int) : Int := if mayB ss ws then (if ks.length = ws.length then (if ∀ k ∈ ks, fitK k then 0 else 2) else 4) else 8
def crashS (ss : List Bs) (ws : List Wr) (ks : List Int) : List Bs := if crashE ss ws ks = 0 then comes ss ws (ks.map Int.toNat) else []
theorem crashE_zero {ss : List Bs} {ws : List Wr} {ks : List Int} (h1 : May ss ws) (h2 : ks.length = ws.length) (h3 : ∀ k ∈ ks, fitK k) : crashE ss ws ks = 0 := by
  rw [crashE, if_pos (mayB_iff.2 h1), if_pos h2, if_pos h3]
theorem crashE_may {ss : List Bs} {ws : List Wr} {ks : List Int} (h : crashE ss ws ks = 0) : May ss ws ∧ ks.length = ws.length ∧ ∀ k ∈ ks, fitK k := by
  unfold crashE at h
  split at h
  · rename_i h1
    split at h
    · rename_i h2
      split at h
      · rename_i h3; exact ⟨mayB_iff.1 h1, h2, h3⟩
      · cases h
    · cases h
  · cases h
theorem toNat_ofNat {ks : List Int} (h : ∀ k ∈ ks, fitK k) : (ks.map Int.toNat).map Int.ofNat = ks := by
  rw [List.map_map]
  exact (List.map_congr_left (g := id) (fun k hk => by
    have := (h k hk).1
    show ((k.toNat : Nat) : Int) = k
    omega)).trans (List.map_id ks)

set_option maxHeartbeats 1000000 in
theorem crash_any (d kv : Value) (ss : List Bs) (ws : List Wr) (ks : List Int) (w : World) (h : DiskIn w w.heap.size d ss ws) (hk : NumsIn w w.heap.size kv ks) :
    Calls Try.prog 29 #[d, kv] w fun e w' => ∃ d', e = .returned (.tuple #[d', .int .i64 (crashE ss ws ks)]) ∧ DiskAt w' w.heap.size d' (crashS ss ws ks) [] ∧ Below w.heap.size w w' := by
  obtain ⟨v1, v2, rfl, h1, h2⟩ := id h
  have H := Lib.hid h
  have K := Lib.hid hk
  obtain ⟨A2, c2, rfl, -, -, -, -⟩ := h2
  obtain ⟨A3, c3, rfl, -, -, -, -⟩ := hk
  clear h1 h
  have hmf : ∀ (fn : Fn) (first cap : Array Value) (w : World), (Instr.makeFunc fn first cap).run Try.prog w = .ok (.func fn first cap) w := fun _ _ _ _ => rfl
  have hq := three_boxes w (.cells #[v1, .slice A2 ws.length c2] 29) (.cells #[.slice A3 ks.length c3] 64) (.cells #[.slice none 0 0, .slice none 0 0] 29)
  go_enter Try.func29, Try.ntmps29
  go_wp2_with fail
  generalize ((w.alloc (.cells #[v1, .slice A2 ws.length c2] 29)).alloc (.cells #[.slice A3 ks.length c3] 64)).alloc (.cells #[.slice none 0 0, .slice none 0 0] 29) = q at hq ⊢
  obtain ⟨q0, q1, q2, qb⟩ := hq
  have QB := Lib.hid qb
  refine (check_any _ ss ws q ((H.out.below QB.out).more QB.out.size)).mono ?_
  rintro e w1 ⟨rfl, b1⟩
  have B1 := Lib.hid (QB.out.trans (b1.mono QB.out.size))
  have C0 := Lib.hid ((b1.block _ (heap_lt q0)).trans q0)
  have C1 : Hid (Boxed w1 (w.heap.size + 1) 64 (.slice A3 ks.length c3)) := Lib.hid ((b1.block _ (heap_lt q1)).trans q1)
  have C2 := Lib.hid ((b1.block _ (heap_lt q2)).trans q2)
  clear q0 q1 q2 qb b1 QB
  obtain ⟨k0, k1⟩ := cell2_of C0.out
  have k2 := C1.out.cell
  obtain ⟨r0, r1⟩ := cell2_of C2.out
  have f0 := frozen2_of C2.out 0
  have f1 := frozen2_of C2.out 1
  cases hm : mayB ss ws with
  | false =>
    have HE : Hid (crashE ss ws ks = 8) := Lib.hid (by rw [crashE, hm]; rfl)
    simp only [Bool.false_eq_true, ↓reduceIte]
    clear hm
    go_wp2_with fail
    refine bodyPost_ret (v := .tuple #[.agg #[.slice none 0 0, .slice none 0 0], .int .i64 8]) ?_ rfl ⟨_, by rw [HE.out], ?_, below_set2 B1.out (by omega) _ _⟩
    · exact results_2_tmp rfl _ _ (w.heap.size + 2) rfl (zero_kept C2.out) Try.underlying29 infoDisk2 _ rfl
    · rw [crashS, HE.out]; exact DiskAt.nil_ _ _
  | true =>
    have HM := Lib.hid hm
    simp only [↓reduceIte]
    by_cases hl : ks.length = ws.length
    · have HL := Lib.hid hl
      have hl' : (ks.length : Int) = ws.length := by omega
      have hlb : ((ks.length : Int) != ws.length) = false := by rw [bne_eq_false_iff_eq]; exact hl'
      have hn : Hid (ks.length ≤ 256) := Lib.hid (by rw [hl]; exact (mayB_iff.1 hm).m)
      have hn' : (ks.length : Int) ≤ 256 := by have := hn.out; omega
      clear hm hl hl'
      go_wp2_with fail
      go_loopw [24] (fun s24 wr => ∃ i : Nat, i ≤ ks.length ∧ s24 = .int .i64 i ∧ Hid (∀ j (h : j < ks.length), j < i → fitK ks[j]) ∧ wr = w1) (fun s24 _ => ks.length - (intOf s24).toNat)
      case atStart => exact ⟨0, by omega, rfl, Lib.hid (fun j h h' => absurd h' (by omega)), by first | rfl | trivial⟩
      case round =>
        obtain ⟨i, hi, rfl, hall, rfl⟩ := hrel
        by_cases hlt : i < ks.length
        · have hlt' : (i : Int) < ks.length := by omega
          obtain ⟨b, off, rfl, hbb, hc⟩ := (K.out.below B1.out).at hlt
          by_cases ha : 0 ≤ ks[i] ∧ ks[i] < 129
          · have hda : decide (0 ≤ ks[i] ∧ ks[i] < 129) = true := decide_eq_true ha
            have HA := Lib.hid (show fitK ks[i] from ha)
            clear ha
            go_wp2_with (refine (below_any _ _ _).mono ?_; rintro e w' ⟨rfl, rfl⟩)
            go_roundw
            case measure => simp [intOf]; omega
            case rel => exact ⟨i + 1, by omega, by go_num, Lib.hid (fun j h h' => by
              rcases Nat.lt_or_ge j i with h2 | h2
              · exact hall.out j h h2
              · obtain rfl : j = i := by omega
                exact HA.out), by first | rfl | trivial⟩
          · have hda : decide (0 ≤ ks[i] ∧ ks[i] < 129) = false := decide_eq_false ha
            have HE : Hid (crashE ss ws ks = 2) := Lib.hid (by rw [crashE, HM.out, if_pos rfl, if_pos HL.out, if_neg (fun h => ha (h _ (List.getElem_mem hlt)))])
            clear ha
            go_wp2_with (refine (below_any _ _ _).mono ?_; rintro e w' ⟨rfl, rfl⟩)
            refine bodyPost_ret (v := .tuple #[.agg #[.slice none 0 0, .slice none 0 0], .int .i64 2]) ?_ rfl ⟨_, by rw [HE.out], ?_, below_set2 B1.out (by omega) _ _⟩
            · exact results_2_tmp rfl _ _ (w.heap.size + 2) rfl (zero_kept C2.out) Try.underlying29 infoDisk2 _ rfl
            · rw [crashS, HE.out]; exact DiskAt.nil_ _ _
        · have hlt' : ¬ ((i : Int) < ks.length) := by omega
          have hfit : ∀ k ∈ ks, fitK k := fun k hk => by
            obtain ⟨j, hj, rfl⟩ := List.mem_iff_getElem.1 hk
            exact hall.out j hj (by omega)
          have HE := Lib.hid (crashE_zero (mayB_iff.1 HM.out) HL.out hfit)
          have hcome := come_kept (.agg #[v1, .slice A2 ws.length c2]) ss ws (ks.map Int.toNat) wr ((H.out.below B1.out).more B1.out.size) (mayB_iff.1 HM.out) (by rw [List.length_map]; exact HL.out) (fun k hk => by
            obtain ⟨z, hz, rfl⟩ := List.mem_map.1 hk
            have := hfit z hz
            unfold fitK at this
            omega) (w.heap.size + 1) _ C1.out (by rw [toNat_ofNat hfit]; exact (K.out.below B1.out).more B1.out.size)
          have HC := Lib.hid hcome
          clear hcome hfit hall
          go_wp2_with fail
          refine HC.out.mono ?_
          rintro e w2 ⟨y1, rfl, hs, b2⟩
          obtain ⟨A4, c4, rfl⟩ := secs_slice hs
          have S2 := Lib.hid hs
          have B2 := Lib.hid (B1.out.trans (b2.mono B1.out.size))
          have C4 := Lib.hid ((b2.block _ (heap_lt C2.out)).trans C2.out)
          have L2 := Lib.hid (heap_lt C2.out)
          clear hs b2 k0 k1 k2 r0 r1 f0 f1
          obtain ⟨r0, r1⟩ := cell2_of C4.out
          have f0 := frozen2_of C4.out 0
          have f1 := frozen2_of C4.out 1
          go_wp2_with fail
          refine bodyPost_ret (v := .tuple #[.agg #[.slice A4 (comes ss ws (ks.map Int.toNat)).length c4, .slice none 0 0], .int .i64 0]) ?_ rfl ⟨_, by rw [HE.out], ?_, below_set2 B2.out (by omega) _ _⟩
          · exact results_2_tmp rfl _ _ (w.heap.size + 2) rfl (heap_set2 C4.out _ _) Try.underlying29 infoDisk2 _ rfl
          · rw [crashS, HE.out]; exact ⟨_, _, rfl, (secs_grown S2.out (grown_set2 w2 (w.heap.size + 2) _ _) L2.out).mono (by have := L2.out; omega), WtsAt.nil_ _ _⟩
    · have hl' : ¬ (ks.length : Int) = ws.length := by omega
      have hlb : ((ks.length : Int) == ws.length) = false := by rw [beq_eq_false_iff_ne]; exact hl'
      have HE : Hid (crashE ss ws ks = 4) := Lib.hid (by rw [crashE, hm, if_pos rfl, if_neg hl])
      clear hm hl
      go_wp2_with fail
      refine bodyPost_ret (v := .tuple #[.agg #[.slice none 0 0, .slice none 0 0], .int .i64 4]) ?_ rfl ⟨_, by rw [HE.out], ?_, below_set2 B1.out (by omega) _ _⟩
      · exact results_2_tmp rfl _ _ (w.heap.size + 2) rfl (zero_kept C2.out) Try.underlying29 infoDisk2 _ rfl
      · rw [crashS, HE.out]; exact DiskAt.nil_ _ _
end Go.Proofs.Ytdjoflhcagfmiaa
