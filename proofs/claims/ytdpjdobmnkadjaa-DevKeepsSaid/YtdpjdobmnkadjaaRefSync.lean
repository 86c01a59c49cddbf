/-
  The document's own functions: Check, Read, Sync, Crash.
  Conditions: none.
-/
import Derived.Test.YtdpjdobmnkadjaaRefMay
import Derived.Test.YtdpjdobmnkadjaaRefComes
set_option linter.unusedVariables false
set_option linter.unusedSimpArgs false
namespace Go.Proofs.Ytdpjdobmnkadjaa
open Go.RowKit

theorem rcheck_any (d : Value) (ss : List Bs) (ws : List Wr) (w : World) (hd : DiskIn w w.heap.size d ss ws) :
    Calls Try.prog 25 #[d] w fun e w' => e = .returned (.int .i64 (if mayB ss ws then 0 else 8)) ∧ Below w.heap.size w w' := by
  obtain ⟨v1, v2, rfl, h1, h2⟩ := id hd
  have H := Lib.hid hd
  have qb := below_new w (.cells #[v1, v2] 25)
  have QB := Lib.hid qb
  obtain ⟨r, hr⟩ : ∃ r, r = mayB ss ws := ⟨_, rfl⟩
  have HM := rmay_any (.agg #[v1, v2]) ss ws (w.alloc (.cells #[v1, v2] 25)) ((H.out.below QB.out).more QB.out.size)
  rw [← hr] at HM ⊢
  have HMH := Lib.hid HM
  clear h1 h2 hd HM hr qb
  cases r with
  | true =>
    go_enter Try.func25, Try.ntmps25
    go_wp2_with fail
    refine HMH.out.mono ?_
    rintro e w1 ⟨rfl, b1⟩
    have B1 := Lib.hid (QB.out.trans (b1.mono QB.out.size))
    clear b1
    go_wp2_with fail
    go_ret
    exact ⟨rfl, B1.out⟩
  | false =>
    go_enter Try.func25, Try.ntmps25
    go_wp2_with fail
    refine HMH.out.mono ?_
    rintro e w1 ⟨rfl, b1⟩
    have B1 := Lib.hid (QB.out.trans (b1.mono QB.out.size))
    clear b1
    go_wp2_with fail
    go_ret
    exact ⟨rfl, B1.out⟩

theorem rowR_nil (ss : List Bs) (ws : List Wr) (a : Nat) : rowR ss ws [] a = seeAll (ss.getD a []) a (piecesOf ws (all128 ws)) := by rw [rowR, keptK, if_pos rfl]

theorem rread_any (d : Value) (ss : List Bs) (ws : List Wr) (n : Int) (w : World) (h : DiskIn w w.heap.size d ss ws) :
    Calls Try.prog 22 #[d, .int .i64 n] w fun e w' => ∃ y, e = .returned (.tuple #[y, .int .i64 (atE ss ws n)]) ∧ w'.ownsRow w.heap.size 5 1 y (readS ss ws n).length ((readS ss ws n).map u8) ∧ Below w.heap.size w w' := by
  obtain ⟨v1, v2, rfl, h1, h2⟩ := id h
  have H := Lib.hid h
  have q0 := heap_alloc_self w (.cells #[v1, v2] 25)
  have qb := below_new w (.cells #[v1, v2] 25)
  clear h1 h2 h
  cases hm : mayB ss ws with
  | false =>
    have HE : Hid (atE ss ws n = 8) := Lib.hid (by rw [atE, hm]; rfl)
    have HR : Hid (readS ss ws n = []) := Lib.hid (by rw [readS, if_neg (by rw [HE.out]; decide)])
    go_enter Try.func22, Try.ntmps22
    go_wp2_with fail
    generalize w.alloc (.cells #[v1, v2] 25) = q at q0 qb ⊢
    have QB := Lib.hid qb
    refine (rcheck_any _ ss ws q ((H.out.below QB.out).more QB.out.size)).mono ?_
    rw [hm]
    rintro e w1 ⟨rfl, b1⟩
    have B1 := Lib.hid (QB.out.trans (b1.mono QB.out.size))
    simp only [Bool.false_eq_true, ↓reduceIte]
    clear q0 qb b1 hm
    go_wp2_with fail
    refine bodyPost_ret (results_tmp2 rfl _ _ _) rfl ⟨.slice none 0 0, by rw [HE.out]; rfl, ?_, B1.out⟩
    rw [HR.out]
    exact World.ownsRow_nil _ _ _ _
  | true =>
    have HM := Lib.hid (mayB_iff.1 hm)
    by_cases ha : 0 ≤ n ∧ n < 32
    · have HE : Hid (atE ss ws n = 0) := Lib.hid (by rw [atE, hm, if_pos rfl, if_pos ha])
      obtain ⟨a, rfl⟩ : ∃ a : Nat, n = (a : Int) := ⟨n.toNat, by omega⟩
      have HA : Hid (a < ss.length) := Lib.hid (by rw [HM.out.n]; omega)
      have hda : decide (0 ≤ (a : Int) ∧ (a : Int) < 32) = true := decide_eq_true ha
      have hda2 : (a : Int) < 32 := ha.2
      have HR : Hid (readS ss ws (a : Int) = rowR ss ws [] a) := Lib.hid (by rw [readS, if_pos HE.out, rowR_nil]; rfl)
      go_enter Try.func22, Try.ntmps22
      go_wp2_with fail
      generalize w.alloc (.cells #[v1, v2] 25) = q at q0 qb ⊢
      have QB := Lib.hid qb
      refine (rcheck_any _ ss ws q ((H.out.below QB.out).more QB.out.size)).mono ?_
      rw [hm]
      rintro e w1 ⟨rfl, b1⟩
      have B1 := Lib.hid (QB.out.trans (b1.mono QB.out.size))
      have C1 := Lib.hid ((b1.block _ (heap_lt q0)).trans q0)
      simp only [↓reduceIte]
      clear q0 qb b1 hm ha
      obtain ⟨k0, k1⟩ := cell2_of C1.out
      go_wp2_with fail
      refine (number_any _ _ _).mono ?_
      rintro e w' ⟨rfl, rfl⟩
      go_wp2_with fail
      refine (seen_any _ ss ws w1 ((H.out.below B1.out).more B1.out.size) HM.out HA.out).mono ?_
      rintro e w2 ⟨y, rfl, ho, b2⟩
      have O := Lib.hid ho
      have B2 := Lib.hid (B1.out.trans (b2.mono B1.out.size))
      obtain ⟨A2, c2, rfl⟩ := own_slice_ ho
      clear ho b2 k0 k1
      go_wp2_with fail
      refine bodyPost_ret (results_tmp2 rfl _ _ _) rfl ⟨.slice A2 128 c2, by rw [HE.out]; rfl, ?_, B2.out⟩
      rw [HR.out, rowR_length HM.out HA.out]
      exact owns_mono O.out B1.out.size
    · have HE : Hid (atE ss ws n = 2) := Lib.hid (by rw [atE, hm, if_pos rfl, if_neg ha])
      have HR : Hid (readS ss ws n = []) := Lib.hid (by rw [readS, if_neg (by rw [HE.out]; decide)])
      have hda : decide (0 ≤ n ∧ n < 32) = false := decide_eq_false ha
      go_enter Try.func22, Try.ntmps22
      go_wp2_with fail
      generalize w.alloc (.cells #[v1, v2] 25) = q at q0 qb ⊢
      have QB := Lib.hid qb
      refine (rcheck_any _ ss ws q ((H.out.below QB.out).more QB.out.size)).mono ?_
      rw [hm]
      rintro e w1 ⟨rfl, b1⟩
      have B1 := Lib.hid (QB.out.trans (b1.mono QB.out.size))
      simp only [↓reduceIte]
      clear q0 qb b1 hm ha
      go_wp2_with fail
      refine (number_any _ _ _).mono ?_
      rintro e w' ⟨rfl, rfl⟩
      go_wp2_with fail
      refine bodyPost_ret (results_tmp2 rfl _ _ _) rfl ⟨.slice none 0 0, by rw [HE.out]; rfl, ?_, B1.out⟩
      rw [HR.out]
      exact World.ownsRow_nil _ _ _ _

set_option maxHeartbeats 1000000 in
theorem rsync_any (d : Value) (ss : List Bs) (ws : List Wr) (w : World) (h : DiskIn w w.heap.size d ss ws) :
    Calls Try.prog 24 #[d] w fun e w' => ∃ d', e = .returned (.tuple #[d', .int .i64 (syncE ss ws)]) ∧ DiskAt w' w.heap.size d' (syncS ss ws) [] ∧ Below w.heap.size w w' := by
  obtain ⟨v1, v2, rfl, h1, h2⟩ := id h
  have H := Lib.hid h
  clear h1 h2 h
  have hq := two_boxes w (.cells #[v1, v2] 25) (.cells #[.slice none 0 0, .slice none 0 0] 25)
  go_enter Try.func24, Try.ntmps24
  go_wp2_with fail
  generalize (w.alloc (.cells #[v1, v2] 25)).alloc (.cells #[.slice none 0 0, .slice none 0 0] 25) = q at hq ⊢
  obtain ⟨q0, q1, qb⟩ := hq
  have QB := Lib.hid qb
  refine (rcheck_any _ ss ws q ((H.out.below QB.out).more QB.out.size)).mono ?_
  rintro e w1 ⟨rfl, b1⟩
  have B1 := Lib.hid (QB.out.trans (b1.mono QB.out.size))
  have C0 := Lib.hid ((b1.block _ (heap_lt q0)).trans q0)
  have C1 := Lib.hid ((b1.block _ (heap_lt q1)).trans q1)
  clear q0 q1 qb b1 QB
  obtain ⟨k0, k1⟩ := cell2_of C0.out
  obtain ⟨r0, r1⟩ := cell2_of C1.out
  have f0 := frozen2_of C1.out 0
  have f1 := frozen2_of C1.out 1
  cases hm : mayB ss ws with
  | false =>
    have HM := Lib.hid hm
    simp only [Bool.false_eq_true, ↓reduceIte]
    clear hm
    go_wp2_with fail
    refine bodyPost_ret (v := .tuple #[.agg #[.slice none 0 0, .slice none 0 0], .int .i64 8]) ?_ rfl ⟨_, by rw [syncE, HM.out]; rfl, ?_, below_set2 B1.out (by omega) _ _⟩
    · exact results_2_tmp rfl _ _ (w.heap.size + 1) rfl (zero_kept C1.out) Try.underlying25 infoDisk2 _ rfl
    · rw [syncS, HM.out]; exact DiskAt.nil_ _ _
  | true =>
    have HM := Lib.hid hm
    simp only [↓reduceIte]
    clear hm
    go_wp2_with fail
    refine (synced_any _ ss ws w1 ((H.out.below B1.out).more B1.out.size) (mayB_iff.1 HM.out)).mono ?_
    rintro e w2 ⟨y1, rfl, hs, b2⟩
    obtain ⟨A2, c2, rfl⟩ := secs_slice hs
    have S2 := Lib.hid hs
    have B2 := Lib.hid (B1.out.trans (b2.mono B1.out.size))
    have C2 := Lib.hid ((b2.block _ (heap_lt C1.out)).trans C1.out)
    have L2 := Lib.hid (heap_lt C1.out)
    clear hs b2 k0 k1 r0 r1 f0 f1
    obtain ⟨r0, r1⟩ := cell2_of C2.out
    have f0 := frozen2_of C2.out 0
    have f1 := frozen2_of C2.out 1
    go_wp2_with fail
    refine bodyPost_ret (v := .tuple #[.agg #[.slice A2 (comes ss ws (all128 ws)).length c2, .slice none 0 0], .int .i64 0]) ?_ rfl ⟨_, by rw [syncE, HM.out]; rfl, ?_, below_set2 B2.out (by omega) _ _⟩
    · exact results_2_tmp rfl _ _ (w.heap.size + 1) rfl (heap_set2 C2.out _ _) Try.underlying25 infoDisk2 _ rfl
    · rw [syncS, HM.out]; exact ⟨_, _, rfl, (secs_grown S2.out (grown_set2 w2 (w.heap.size + 1) _ _) L2.out).mono (Nat.le_trans (Nat.le_succ _) (Nat.le_of_lt L2.out)), WtsAt.nil_ _ _⟩
end Go.Proofs.Ytdpjdobmnkadjaa
