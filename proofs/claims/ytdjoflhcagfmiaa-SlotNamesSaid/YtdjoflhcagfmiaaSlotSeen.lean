/-
  All sectors of a disk as they are seen, as the program makes them.
  Conditions: none.
-/
import Derived.Test.YtdjoflhcagfmiaaSlotMath
import Derived.Test.YtdjoflhcagfmiaaDevSync
set_option linter.unusedVariables false
set_option linter.unusedSimpArgs false
set_option maxRecDepth 100000
namespace Go.Proofs.Ytdjoflhcagfmiaa
open Go.RowKit

set_option maxHeartbeats 1000000 in
theorem sseen_any (d : Value) (ss : List Bs) (ws : List Wr) (w : World) (h : DiskIn w w.heap.size d ss ws) :
    Calls Try.prog 31 #[d] w fun e w' => ∃ v1, e = .returned (.tuple #[v1, .int .i64 (syncE ss ws)]) ∧ SecsAt w' w.heap.size v1 (syncS ss ws) ∧ Below w.heap.size w w' := by
  obtain ⟨v1, v2, rfl, h1, h2⟩ := id h
  have H := Lib.hid h
  have qb := below_new w (.cells #[v1, v2] 29)
  have q0 := heap_alloc_self w (.cells #[v1, v2] 29)
  clear h1 h2 h
  go_enter Try.func31, Try.ntmps31
  go_wp2_with fail
  generalize w.alloc (.cells #[v1, v2] 29) = q at q0 qb ⊢
  have QB := Lib.hid qb
  refine (sync_any _ ss ws q ((H.out.below QB.out).more QB.out.size)).mono ?_
  rintro e w1 ⟨d', rfl, ⟨y1, y2, rfl, hs, hw⟩, b1⟩
  obtain ⟨A2, c2, rfl⟩ := secs_slice hs
  obtain ⟨A3, c3, rfl⟩ := wts_slice hw
  have S1 := Lib.hid hs
  have B1 := Lib.hid (QB.out.trans (b1.mono QB.out.size))
  have hc := (b1.block _ (heap_lt q0)).trans q0
  have C1 := Lib.hid hc
  have L1 := Lib.hid (heap_lt q0)
  obtain ⟨r0, r1⟩ := cell2_of hc
  have f0 := frozen2_of hc 0
  have f1 := frozen2_of hc 1
  have C2 := heap_set2 hc (.slice A2 (syncS ss ws).length c2) (.slice A3 ([] : List Wr).length c3)
  obtain ⟨k0, k1⟩ := cell2_of C2
  clear hs hw b1 q0 qb hc C2
  go_wp2_with fail
  refine bodyPost_ret (results_tmp2 rfl _ _ _) rfl ?_
  exact ⟨_, rfl, (secs_grown S1.out (grown_set2 w1 w.heap.size _ _) L1.out).mono QB.out.size, below_set2 B1.out (Nat.le_refl _) _ _⟩
end Go.Proofs.Ytdjoflhcagfmiaa
