/-
  The statement DevTears' text returns true: what a loss of power leaves, and a byte that is turned, are as the document says.
  Conditions: none.
-/
import Derived.Test.YtdpjdobmnkadjaaRefSame
import Derived.Test.YtdpjdobmnkadjaaRefCrash
import Derived.Test.YtdpjdobmnkadjaaRefSpoil
import Derived.Test.YtdpjdobmnkadjaaDevFlipsM
set_option linter.unusedVariables false
set_option linter.unusedSimpArgs false
namespace Go.Proofs.Ytdpjdobmnkadjaa
open Go.RowKit

theorem tells_crash (ss : List Bs) (ws : List Wr) (ks : List Int) : Tells (crashS ss ws ks) [] := by
  rw [crashS]
  split
  · next h => exact (may_comes (crashE_may h).1 _).tells
  · exact Tells.nil_
theorem tells_spoil (ss : List Bs) (ws : List Wr) (n k : Int) (x : UInt8) : Tells (spoilS ss ws n k x) (spoilW ss ws n k) := by
  rw [spoilS, spoilW]
  by_cases h : spoilE ss ws n k = 0
  · rw [if_pos h, if_pos h]; exact (may_turned (spoilE_zero h).1 _ _ _).tells
  · rw [if_neg h, if_neg h]; exact Tells.nil_

set_option maxRecDepth 100000 in
set_option maxHeartbeats 8000000 in
theorem walk_devtears (d kv : Value) (ss : List Bs) (ws : List Wr) (ks : List Int) (n kk : Int) (x : UInt8) (w : World) (h : DiskIn w w.heap.size d ss ws) (hk : NumsIn w w.heap.size kv ks) :
    Calls Try.prog 5 #[d, kv, .int .i64 n, .int .i64 kk, .int .u8 (x.toNat : Int)] w fun e w' => e = .returned (.bool true) ∧ Below w.heap.size w w' := by
  obtain ⟨v1, v2, rfl, h1, h2⟩ := id h
  have H := Lib.hid h
  obtain ⟨A1, c1, rfl, -, -, -, -⟩ := h1
  obtain ⟨A2, c2, rfl, -, -, -, -⟩ := h2
  have KN := Lib.hid hk
  obtain ⟨A3, c3, rfl, -, -, -, -⟩ := hk
  obtain ⟨E1, hE1⟩ : ∃ z, z = crashE ss ws ks := ⟨_, rfl⟩
  obtain ⟨S1, hS1⟩ : ∃ z, z = crashS ss ws ks := ⟨_, rfl⟩
  obtain ⟨E2, hE2⟩ : ∃ z, z = spoilE ss ws n kk := ⟨_, rfl⟩
  obtain ⟨S2, hS2⟩ : ∃ z, z = spoilS ss ws n kk x := ⟨_, rfl⟩
  obtain ⟨W2, hW2⟩ : ∃ z, z = spoilW ss ws n kk := ⟨_, rfl⟩
  have HC1 : Hid (∀ v, Below w.heap.size w v → Calls Try.prog 17 #[.agg #[.slice A1 ss.length c1, .slice A2 ws.length c2], .slice A3 ks.length c3] v fun e w' => ∃ d', e = .returned (.tuple #[d', .int .i64 E1]) ∧ DiskAt w' v.heap.size d' S1 [] ∧ Below v.heap.size v w') := Lib.hid (fun v hv => by rw [hE1, hS1]; exact crash_any _ _ ss ws ks v ((H.out.below hv).more hv.size) ((KN.out.below hv).more hv.size))
  have HC2 : Hid (∀ v, Below w.heap.size w v → Calls Try.prog 28 #[.agg #[.slice A1 ss.length c1, .slice A2 ws.length c2], .slice A3 ks.length c3] v fun e w' => ∃ d', e = .returned (.tuple #[d', .int .i64 E1]) ∧ DiskAt w' v.heap.size d' S1 [] ∧ Below v.heap.size v w') := Lib.hid (fun v hv => by rw [hE1, hS1]; exact rcrash_any _ _ ss ws ks v ((H.out.below hv).more hv.size) ((KN.out.below hv).more hv.size))
  have HS1 : Hid (∀ v, Below w.heap.size w v → Calls Try.prog 29 #[.agg #[.slice A1 ss.length c1, .slice A2 ws.length c2], .int .i64 n, .int .i64 kk, .int .u8 (x.toNat : Int)] v fun e w' => ∃ d', e = .returned (.tuple #[d', .int .i64 E2]) ∧ DiskAt w' v.heap.size d' S2 W2 ∧ Below v.heap.size v w') := Lib.hid (fun v hv => by rw [hE2, hS2, hW2]; exact spoil_any _ ss ws n kk x v ((H.out.below hv).more hv.size))
  have HS2 : Hid (∀ v, Below w.heap.size w v → Calls Try.prog 30 #[.agg #[.slice A1 ss.length c1, .slice A2 ws.length c2], .int .i64 n, .int .i64 kk, .int .u8 (x.toNat : Int)] v fun e w' => ∃ d', e = .returned (.tuple #[d', .int .i64 E2]) ∧ DiskAt w' v.heap.size d' S2 W2 ∧ Below v.heap.size v w') := Lib.hid (fun v hv => by rw [hE2, hS2, hW2]; exact rspoil_any _ ss ws n kk x v ((H.out.below hv).more hv.size))
  have TS1 : Hid (Tells S1 []) := Lib.hid (by rw [hS1]; exact tells_crash ss ws ks)
  have TS2 : Hid (Tells S2 W2) := Lib.hid (by rw [hS2, hW2]; exact tells_spoil ss ws n kk x)
  have hkl : (ks.length : Int) ≤ 9223372036854775807 := by have := KN.out.le; unfold maxLen at this; omega
  clear hE1 hS1 hE2 hS2 hW2 h
  have hq0 := heap_alloc_self w (.cells #[.slice A1 ss.length c1, .slice A2 ws.length c2] 25)
  have hqb := below_new w (.cells #[.slice A1 ss.length c1, .slice A2 ws.length c2] 25)
  go_enter Try.func5, Try.ntmps5
  go_wp2_with fail
  generalize w.alloc (.cells #[.slice A1 ss.length c1, .slice A2 ws.length c2] 25) = q at hq0 hqb ⊢
  generalize hp0 : w.heap.size = p0 at hq0 ⊢
  have HP0 := Lib.hid hp0
  clear hp0
  refine (great_any _ ss ws q ((H.out.below hqb).more hqb.size)).mono ?_
  rintro e w1 ⟨⟨gr, rfl⟩, b1⟩
  have BW := Lib.hid (hqb.trans (b1.mono hqb.size))
  have XD := Lib.hid ((b1.block _ (heap_lt hq0)).trans hq0)
  obtain ⟨k0, k1⟩ := cell2_of XD.out
  clear hq0 hqb b1
  cases gr with
  | true =>
    go_wp2_with fail
    go_ret
    exact ⟨rfl, HP0.out ▸ BW.out⟩
  | false =>
    by_cases hl : (1000 : Int) < ks.length
    · go_wp2_with fail
      go_ret
      exact ⟨rfl, HP0.out ▸ BW.out⟩
    · have hl' : decide ((1000 : Int) < ks.length) = false := decide_eq_false hl
      clear hl
      go_wp2_with fail
      refine (HC1.out w1 BW.out).mono ?_
      rintro e wC ⟨dC, rfl, hdC, bC⟩
      obtain ⟨x1, x2, rfl, hsC, hwC⟩ := hdC
      obtain ⟨AC, kC, rfl⟩ := secs_slice hsC
      obtain ⟨EC, jC, rfl⟩ := wts_slice hwC
      clear k0 k1
      have tBW := BW.out.trans (bC.mono BW.out.size)
      have tXD := (bC.block _ (heap_lt XD.out)).trans XD.out
      clear BW XD
      have BW := Lib.hid tBW
      have XD := Lib.hid tXD
      clear tBW tXD bC
      have DC := Lib.hid (show DiskAt wC _ (.agg #[.slice AC S1.length kC, .slice EC 0 jC]) S1 [] from ⟨_, _, rfl, hsC, hwC⟩)
      clear hsC hwC
      have k0 : ∀ o, (wC.alloc o).cell? ⟨p0, 0, none⟩ = some (.slice A1 ss.length c1) := fun o => (cell2_of (((below_new wC o).block _ (heap_lt XD.out)).trans XD.out)).1
      have k1 : ∀ o, (wC.alloc o).cell? ⟨p0, 1, none⟩ = some (.slice A2 ws.length c2) := fun o => (cell2_of (((below_new wC o).block _ (heap_lt XD.out)).trans XD.out)).2
      go_wp2_with fail
      have hq := heap_alloc_self wC (.cells #[.slice AC S1.length kC, .slice EC 0 jC] 25)
      have qb := below_new wC (.cells #[.slice AC S1.length kC, .slice EC 0 jC] 25)
      clear k0 k1
      generalize wC.alloc (.cells #[.slice AC S1.length kC, .slice EC 0 jC] 25) = qC at hq qb ⊢
      have tBW := BW.out.trans (qb.mono BW.out.size)
      have tXD := (qb.block _ (heap_lt XD.out)).trans XD.out
      have tDC := DC.out.below qb
      clear BW XD DC
      have BW := Lib.hid tBW
      have XD := Lib.hid tXD
      have DC := Lib.hid tDC
      clear tBW tXD tDC qb
      generalize wC.heap.size = pC at hq ⊢
      have XC := Lib.hid hq
      clear hq
      obtain ⟨k0, k1⟩ := cell2_of XD.out
      refine (HC2.out qC BW.out).mono ?_
      rintro e wF ⟨dF, rfl, hdF, bF⟩
      obtain ⟨x1, x2, rfl, hsF, hwF⟩ := hdF
      obtain ⟨AF, kF, rfl⟩ := secs_slice hsF
      obtain ⟨EF, jF, rfl⟩ := wts_slice hwF
      clear k0 k1
      have tBW := BW.out.trans (bF.mono BW.out.size)
      have tXD := (bF.block _ (heap_lt XD.out)).trans XD.out
      have tDC := DC.out.below bF
      have tXC := (bF.block _ (heap_lt XC.out)).trans XC.out
      clear BW XD DC XC
      have BW := Lib.hid tBW
      have XD := Lib.hid tXD
      have DC := Lib.hid tDC
      have XC := Lib.hid tXC
      clear tBW tXD tDC tXC bF
      have DF := Lib.hid (show DiskAt wF _ (.agg #[.slice AF S1.length kF, .slice EF 0 jF]) S1 [] from ⟨_, _, rfl, hsF, hwF⟩)
      clear hsF hwF
      have k0 : ∀ o, (wF.alloc o).cell? ⟨p0, 0, none⟩ = some (.slice A1 ss.length c1) := fun o => (cell2_of (((below_new wF o).block _ (heap_lt XD.out)).trans XD.out)).1
      have k1 : ∀ o, (wF.alloc o).cell? ⟨p0, 1, none⟩ = some (.slice A2 ws.length c2) := fun o => (cell2_of (((below_new wF o).block _ (heap_lt XD.out)).trans XD.out)).2
      go_wp2_with fail
      have hq := heap_alloc_self wF (.cells #[.slice AF S1.length kF, .slice EF 0 jF] 25)
      have qb := below_new wF (.cells #[.slice AF S1.length kF, .slice EF 0 jF] 25)
      clear k0 k1
      generalize wF.alloc (.cells #[.slice AF S1.length kF, .slice EF 0 jF] 25) = qF at hq qb ⊢
      have tBW := BW.out.trans (qb.mono BW.out.size)
      have tXD := (qb.block _ (heap_lt XD.out)).trans XD.out
      have tDC := DC.out.below qb
      have tXC := (qb.block _ (heap_lt XC.out)).trans XC.out
      have tDF := DF.out.below qb
      clear BW XD DC XC DF
      have BW := Lib.hid tBW
      have XD := Lib.hid tXD
      have DC := Lib.hid tDC
      have XC := Lib.hid tXC
      have DF := Lib.hid tDF
      clear tBW tXD tDC tXC tDF qb
      generalize wF.heap.size = pF at hq ⊢
      have XF := Lib.hid hq
      clear hq
      obtain ⟨k0, k1⟩ := cell2_of XD.out
      refine (HS1.out qF BW.out).mono ?_
      rintro e wP ⟨dP, rfl, hdP, bP⟩
      obtain ⟨x1, x2, rfl, hsP, hwP⟩ := hdP
      obtain ⟨AP, kP, rfl⟩ := secs_slice hsP
      obtain ⟨EP, jP, rfl⟩ := wts_slice hwP
      clear k0 k1
      have tBW := BW.out.trans (bP.mono BW.out.size)
      have tXD := (bP.block _ (heap_lt XD.out)).trans XD.out
      have tDC := DC.out.below bP
      have tXC := (bP.block _ (heap_lt XC.out)).trans XC.out
      have tDF := DF.out.below bP
      have tXF := (bP.block _ (heap_lt XF.out)).trans XF.out
      clear BW XD DC XC DF XF
      have BW := Lib.hid tBW
      have XD := Lib.hid tXD
      have DC := Lib.hid tDC
      have XC := Lib.hid tXC
      have DF := Lib.hid tDF
      have XF := Lib.hid tXF
      clear tBW tXD tDC tXC tDF tXF bP
      have DP := Lib.hid (show DiskAt wP _ (.agg #[.slice AP S2.length kP, .slice EP W2.length jP]) S2 W2 from ⟨_, _, rfl, hsP, hwP⟩)
      clear hsP hwP
      have k0 : ∀ o, (wP.alloc o).cell? ⟨p0, 0, none⟩ = some (.slice A1 ss.length c1) := fun o => (cell2_of (((below_new wP o).block _ (heap_lt XD.out)).trans XD.out)).1
      have k1 : ∀ o, (wP.alloc o).cell? ⟨p0, 1, none⟩ = some (.slice A2 ws.length c2) := fun o => (cell2_of (((below_new wP o).block _ (heap_lt XD.out)).trans XD.out)).2
      go_wp2_with fail
      have hq := heap_alloc_self wP (.cells #[.slice AP S2.length kP, .slice EP W2.length jP] 25)
      have qb := below_new wP (.cells #[.slice AP S2.length kP, .slice EP W2.length jP] 25)
      clear k0 k1
      generalize wP.alloc (.cells #[.slice AP S2.length kP, .slice EP W2.length jP] 25) = qP at hq qb ⊢
      have tBW := BW.out.trans (qb.mono BW.out.size)
      have tXD := (qb.block _ (heap_lt XD.out)).trans XD.out
      have tDC := DC.out.below qb
      have tXC := (qb.block _ (heap_lt XC.out)).trans XC.out
      have tDF := DF.out.below qb
      have tXF := (qb.block _ (heap_lt XF.out)).trans XF.out
      have tDP := DP.out.below qb
      clear BW XD DC XC DF XF DP
      have BW := Lib.hid tBW
      have XD := Lib.hid tXD
      have DC := Lib.hid tDC
      have XC := Lib.hid tXC
      have DF := Lib.hid tDF
      have XF := Lib.hid tXF
      have DP := Lib.hid tDP
      clear tBW tXD tDC tXC tDF tXF tDP qb
      generalize wP.heap.size = pP at hq ⊢
      have XP := Lib.hid hq
      clear hq
      obtain ⟨k0, k1⟩ := cell2_of XD.out
      refine (HS2.out qP BW.out).mono ?_
      rintro e wQ ⟨dQ, rfl, hdQ, bQ⟩
      obtain ⟨x1, x2, rfl, hsQ, hwQ⟩ := hdQ
      obtain ⟨AQ, kQ, rfl⟩ := secs_slice hsQ
      obtain ⟨EQ, jQ, rfl⟩ := wts_slice hwQ
      clear k0 k1
      have tBW := BW.out.trans (bQ.mono BW.out.size)
      have tXD := (bQ.block _ (heap_lt XD.out)).trans XD.out
      have tDC := DC.out.below bQ
      have tXC := (bQ.block _ (heap_lt XC.out)).trans XC.out
      have tDF := DF.out.below bQ
      have tXF := (bQ.block _ (heap_lt XF.out)).trans XF.out
      have tDP := DP.out.below bQ
      have tXP := (bQ.block _ (heap_lt XP.out)).trans XP.out
      clear BW XD DC XC DF XF DP XP
      have BW := Lib.hid tBW
      have XD := Lib.hid tXD
      have DC := Lib.hid tDC
      have XC := Lib.hid tXC
      have DF := Lib.hid tDF
      have XF := Lib.hid tXF
      have DP := Lib.hid tDP
      have XP := Lib.hid tXP
      clear tBW tXD tDC tXC tDF tXF tDP tXP bQ
      have DQ := Lib.hid (show DiskAt wQ _ (.agg #[.slice AQ S2.length kQ, .slice EQ W2.length jQ]) S2 W2 from ⟨_, _, rfl, hsQ, hwQ⟩)
      clear hsQ hwQ
      have k0 : ∀ o, (wQ.alloc o).cell? ⟨p0, 0, none⟩ = some (.slice A1 ss.length c1) := fun o => (cell2_of (((below_new wQ o).block _ (heap_lt XD.out)).trans XD.out)).1
      have k1 : ∀ o, (wQ.alloc o).cell? ⟨p0, 1, none⟩ = some (.slice A2 ws.length c2) := fun o => (cell2_of (((below_new wQ o).block _ (heap_lt XD.out)).trans XD.out)).2
      have exXC1 := fun o => (cell2_of (((below_new wQ o).block _ (heap_lt XC.out)).trans XC.out)).1
      have exXC2 := fun o => (cell2_of (((below_new wQ o).block _ (heap_lt XC.out)).trans XC.out)).2
      have exXF1 := fun o => (cell2_of (((below_new wQ o).block _ (heap_lt XF.out)).trans XF.out)).1
      have exXF2 := fun o => (cell2_of (((below_new wQ o).block _ (heap_lt XF.out)).trans XF.out)).2
      go_wp2_with fail
      have hq := heap_alloc_self wQ (.cells #[.slice AQ S2.length kQ, .slice EQ W2.length jQ] 25)
      have qb := below_new wQ (.cells #[.slice AQ S2.length kQ, .slice EQ W2.length jQ] 25)
      clear k0 k1 exXC1 exXC2 exXF1 exXF2
      generalize wQ.alloc (.cells #[.slice AQ S2.length kQ, .slice EQ W2.length jQ] 25) = qQ at hq qb ⊢
      have tBW := BW.out.trans (qb.mono BW.out.size)
      have tXD := (qb.block _ (heap_lt XD.out)).trans XD.out
      have tDC := DC.out.below qb
      have tXC := (qb.block _ (heap_lt XC.out)).trans XC.out
      have tDF := DF.out.below qb
      have tXF := (qb.block _ (heap_lt XF.out)).trans XF.out
      have tDP := DP.out.below qb
      have tXP := (qb.block _ (heap_lt XP.out)).trans XP.out
      have tDQ := DQ.out.below qb
      clear BW XD DC XC DF XF DP XP DQ
      have BW := Lib.hid tBW
      have XD := Lib.hid tXD
      have DC := Lib.hid tDC
      have XC := Lib.hid tXC
      have DF := Lib.hid tDF
      have XF := Lib.hid tXF
      have DP := Lib.hid tDP
      have XP := Lib.hid tXP
      have DQ := Lib.hid tDQ
      clear tBW tXD tDC tXC tDF tXF tDP tXP tDQ qb
      generalize wQ.heap.size = pQ at hq ⊢
      have XQ := Lib.hid hq
      clear hq
      obtain ⟨k0, k1⟩ := cell2_of XD.out
      refine (rsame_any (.agg #[.slice AC S1.length kC, .slice EC 0 jC]) (.agg #[.slice AF S1.length kF, .slice EF 0 jF]) S1 S1 [] [] qQ DC.out.in_ DF.out.in_ TS1.out TS1.out).mono ?_
      rw [sameT_self]
      rintro e wS ⟨rfl, bwS⟩
      clear k0 k1
      have tBW := BW.out.trans (bwS.mono BW.out.size)
      have tXD := (bwS.block _ (heap_lt XD.out)).trans XD.out
      have tDC := DC.out.below bwS
      have tXC := (bwS.block _ (heap_lt XC.out)).trans XC.out
      have tDF := DF.out.below bwS
      have tXF := (bwS.block _ (heap_lt XF.out)).trans XF.out
      have tDP := DP.out.below bwS
      have tXP := (bwS.block _ (heap_lt XP.out)).trans XP.out
      have tDQ := DQ.out.below bwS
      have tXQ := (bwS.block _ (heap_lt XQ.out)).trans XQ.out
      clear BW XD DC XC DF XF DP XP DQ XQ
      have BW := Lib.hid tBW
      have XD := Lib.hid tXD
      have DC := Lib.hid tDC
      have XC := Lib.hid tXC
      have DF := Lib.hid tDF
      have XF := Lib.hid tXF
      have DP := Lib.hid tDP
      have XP := Lib.hid tXP
      have DQ := Lib.hid tDQ
      have XQ := Lib.hid tXQ
      clear tBW tXD tDC tXC tDF tXF tDP tXP tDQ tXQ bwS
      obtain ⟨m0, m1⟩ := cell2_of XP.out
      obtain ⟨m2, m3⟩ := cell2_of XQ.out
      go_wp2_with fail
      refine (rsame_any (.agg #[.slice AP S2.length kP, .slice EP W2.length jP]) (.agg #[.slice AQ S2.length kQ, .slice EQ W2.length jQ]) S2 S2 W2 W2 wS DP.out.in_ DQ.out.in_ TS2.out TS2.out).mono ?_
      rw [sameT_self]
      rintro e wT ⟨rfl, bwT⟩
      clear m0 m1 m2 m3
      have tBW := BW.out.trans (bwT.mono BW.out.size)
      have tXD := (bwT.block _ (heap_lt XD.out)).trans XD.out
      have tDC := DC.out.below bwT
      have tXC := (bwT.block _ (heap_lt XC.out)).trans XC.out
      have tDF := DF.out.below bwT
      have tXF := (bwT.block _ (heap_lt XF.out)).trans XF.out
      have tDP := DP.out.below bwT
      have tXP := (bwT.block _ (heap_lt XP.out)).trans XP.out
      have tDQ := DQ.out.below bwT
      have tXQ := (bwT.block _ (heap_lt XQ.out)).trans XQ.out
      clear BW XD DC XC DF XF DP XP DQ XQ
      have BW := Lib.hid tBW
      have XD := Lib.hid tXD
      have DC := Lib.hid tDC
      have XC := Lib.hid tXC
      have DF := Lib.hid tDF
      have XF := Lib.hid tXF
      have DP := Lib.hid tDP
      have XP := Lib.hid tXP
      have DQ := Lib.hid tDQ
      have XQ := Lib.hid tXQ
      clear tBW tXD tDC tXC tDF tXF tDP tXP tDQ tXQ bwT
      go_wp2_with fail
      go_ret
      exact ⟨rfl, HP0.out ▸ BW.out⟩
end Go.Proofs.Ytdpjdobmnkadjaa
