/-
  The statement DevReads' text returns true: a sector is seen, a write put behind those that wait, and all that waits settled, as the document says.
  Conditions: none.
-/
import Derived.Test.YtdpjdobmnkadjaaRefSame
import Derived.Test.YtdpjdobmnkadjaaRefWrite
import Derived.Test.YtdpjdobmnkadjaaRefNew
import Derived.Test.YtdpjdobmnkadjaaDevFlipsM
set_option linter.unusedVariables false
set_option linter.unusedSimpArgs false
namespace Go.Proofs.Ytdpjdobmnkadjaa
open Go.RowKit

theorem readS_le (ss : List Bs) (ws : List Wr) (n : Int) : (readS ss ws n).length ≤ 128 := by
  by_cases h : atE ss ws n = 0
  · obtain ⟨hm, h0, h1⟩ := atE_may h
    obtain ⟨m, rfl⟩ : ∃ m : Nat, n = (m : Int) := ⟨n.toNat, by omega⟩
    rw [readS_length hm (by omega)]
    exact Nat.le_refl _
  · rw [readS, if_neg h]; simp
theorem tells_sync (ss : List Bs) (ws : List Wr) : Tells (syncS ss ws) [] := by
  rw [syncS]
  split
  · next h => exact (may_comes (mayB_iff.1 h) _).tells
  · exact Tells.nil_
theorem tells_write (ss : List Bs) (ws : List Wr) (n : Int) (bs : Bs) : Tells (writeS ss ws n bs) (writeW ss ws n bs) := by
  rw [writeS, writeW]
  by_cases h : writeE ss ws n bs = 0
  · rw [if_pos h, if_pos h]
    unfold writeE at h
    split at h
    · next h1 =>
      obtain ⟨hm, h0, h2⟩ := atE_may h1
      split at h
      · next h3 =>
        exact tells_of (by rw [hm.n]; omega) (by have := hm.m; simp; omega) (fun s hs => by rw [hm.s s hs]; omega) (fun x hx => by
          rcases List.mem_append.1 hx with hx | hx
          · obtain ⟨a, b, c⟩ := hm.w x hx; exact ⟨a, b, by omega⟩
          · rw [List.mem_singleton.1 hx]; exact ⟨h0, h2, by show bs.length ≤ 128; omega⟩)
      · cases h
    · next h1 => exact absurd h h1
  · rw [if_neg h, if_neg h]; exact Tells.nil_

set_option maxRecDepth 100000 in
set_option maxHeartbeats 8000000 in
theorem walk_devreads (d bv : Value) (ss : List Bs) (ws : List Wr) (n : Int) (bs : Bs) (w : World) (h : DiskIn w w.heap.size d ss ws) (hx : Txt w w.heap.size bv bs) :
    Calls Try.prog 4 #[d, .int .i64 n, bv] w fun e w' => e = .returned (.bool true) ∧ Below w.heap.size w w' := by
  obtain ⟨v1, v2, rfl, h1, h2⟩ := id h
  have H := Lib.hid h
  obtain ⟨A1, c1, rfl, -, -, -, -⟩ := h1
  obtain ⟨A2, c2, rfl, -, -, -, -⟩ := h2
  have TX := Lib.hid hx
  obtain ⟨A3, c3, rfl, -, -, -, -⟩ := hx
  obtain ⟨E1, hE1⟩ : ∃ z, z = atE ss ws n := ⟨_, rfl⟩
  obtain ⟨R1, hR1⟩ : ∃ z, z = readS ss ws n := ⟨_, rfl⟩
  obtain ⟨E2, hE2⟩ : ∃ z, z = writeE ss ws n bs := ⟨_, rfl⟩
  obtain ⟨S2, hS2⟩ : ∃ z, z = writeS ss ws n bs := ⟨_, rfl⟩
  obtain ⟨W2, hW2⟩ : ∃ z, z = writeW ss ws n bs := ⟨_, rfl⟩
  obtain ⟨E3, hE3⟩ : ∃ z, z = syncE ss ws := ⟨_, rfl⟩
  obtain ⟨S3, hS3⟩ : ∃ z, z = syncS ss ws := ⟨_, rfl⟩
  obtain ⟨E4, hE4⟩ : ∃ z : Int, z = if mayB ss ws then 0 else 8 := ⟨_, rfl⟩
  have hR1l : R1.length ≤ 128 := by rw [hR1]; exact readS_le ss ws n
  have HR1 : Hid (∀ v, Below w.heap.size w v → Calls Try.prog 15 #[.agg #[.slice A1 ss.length c1, .slice A2 ws.length c2], .int .i64 n] v fun e w' => ∃ y, e = .returned (.tuple #[y, .int .i64 E1]) ∧ Txt w' w'.heap.size y R1 ∧ Below v.heap.size v w') := Lib.hid (fun v hv => by rw [hE1, hR1]; exact (read_any _ ss ws n v ((H.out.below hv).more hv.size)).mono (fun e w' ⟨y, he, ho, hb⟩ => ⟨y, he, Txt.own (by rw [hR1] at hR1l; unfold maxLen; omega) ho, hb⟩))
  have HR2 : Hid (∀ v, Below w.heap.size w v → Calls Try.prog 22 #[.agg #[.slice A1 ss.length c1, .slice A2 ws.length c2], .int .i64 n] v fun e w' => ∃ y, e = .returned (.tuple #[y, .int .i64 E1]) ∧ Txt w' w'.heap.size y R1 ∧ Below v.heap.size v w') := Lib.hid (fun v hv => by rw [hE1, hR1]; exact (rread_any _ ss ws n v ((H.out.below hv).more hv.size)).mono (fun e w' ⟨y, he, ho, hb⟩ => ⟨y, he, Txt.own (by rw [hR1] at hR1l; unfold maxLen; omega) ho, hb⟩))
  have HW1 : Hid (∀ v, Below w.heap.size w v → Calls Try.prog 12 #[.agg #[.slice A1 ss.length c1, .slice A2 ws.length c2], .int .i64 n, .slice A3 bs.length c3] v fun e w' => ∃ d', e = .returned (.tuple #[d', .int .i64 E2]) ∧ DiskAt w' v.heap.size d' S2 W2 ∧ Below v.heap.size v w') := Lib.hid (fun v hv => by rw [hE2, hS2, hW2]; exact write_any _ _ ss ws n bs v ((H.out.below hv).more hv.size) ((TX.out.below hv).more hv.size))
  have HW2 : Hid (∀ v, Below w.heap.size w v → Calls Try.prog 23 #[.agg #[.slice A1 ss.length c1, .slice A2 ws.length c2], .int .i64 n, .slice A3 bs.length c3] v fun e w' => ∃ d', e = .returned (.tuple #[d', .int .i64 E2]) ∧ DiskAt w' v.heap.size d' S2 W2 ∧ Below v.heap.size v w') := Lib.hid (fun v hv => by rw [hE2, hS2, hW2]; exact rwrite_any _ _ ss ws n bs v ((H.out.below hv).more hv.size) ((TX.out.below hv).more hv.size))
  have HY1 : Hid (∀ v, Below w.heap.size w v → Calls Try.prog 16 #[.agg #[.slice A1 ss.length c1, .slice A2 ws.length c2]] v fun e w' => ∃ d', e = .returned (.tuple #[d', .int .i64 E3]) ∧ DiskAt w' v.heap.size d' S3 [] ∧ Below v.heap.size v w') := Lib.hid (fun v hv => by rw [hE3, hS3]; exact sync_any _ ss ws v ((H.out.below hv).more hv.size))
  have HY2 : Hid (∀ v, Below w.heap.size w v → Calls Try.prog 24 #[.agg #[.slice A1 ss.length c1, .slice A2 ws.length c2]] v fun e w' => ∃ d', e = .returned (.tuple #[d', .int .i64 E3]) ∧ DiskAt w' v.heap.size d' S3 [] ∧ Below v.heap.size v w') := Lib.hid (fun v hv => by rw [hE3, hS3]; exact rsync_any _ ss ws v ((H.out.below hv).more hv.size))
  have HK1 : Hid (∀ v, Below w.heap.size w v → Calls Try.prog 20 #[.agg #[.slice A1 ss.length c1, .slice A2 ws.length c2]] v fun e w' => e = .returned (.int .i64 E4) ∧ Below v.heap.size v w') := Lib.hid (fun v hv => by rw [hE4]; exact check_any _ ss ws v ((H.out.below hv).more hv.size))
  have HK2 : Hid (∀ v, Below w.heap.size w v → Calls Try.prog 25 #[.agg #[.slice A1 ss.length c1, .slice A2 ws.length c2]] v fun e w' => e = .returned (.int .i64 E4) ∧ Below v.heap.size v w') := Lib.hid (fun v hv => by rw [hE4]; exact rcheck_any _ ss ws v ((H.out.below hv).more hv.size))
  have TS2 : Hid (Tells S2 W2) := Lib.hid (by rw [hS2, hW2]; exact tells_write ss ws n bs)
  have TS3 : Hid (Tells S3 []) := Lib.hid (by rw [hS3]; exact tells_sync ss ws)
  have TSN : Hid (Tells newD []) := Lib.hid may_new.tells
  have hbl : (bs.length : Int) ≤ 9223372036854775807 := by have := TX.out.le; unfold maxLen at this; omega
  clear hE1 hR1 hR1l hE2 hS2 hW2 hE3 hS3 hE4 h
  have hq0 := heap_alloc_self w (.cells #[.slice A1 ss.length c1, .slice A2 ws.length c2] 25)
  have hqb := below_new w (.cells #[.slice A1 ss.length c1, .slice A2 ws.length c2] 25)
  go_enter Try.func4, Try.ntmps4
  go_wp2_with fail
  generalize w.alloc (.cells #[.slice A1 ss.length c1, .slice A2 ws.length c2] 25) = q at hq0 hqb ⊢
  generalize hp0 : w.heap.size = p0 at hq0 ⊢
  have HP0 := Lib.hid hp0
  clear hp0
  refine (great_any _ ss ws q ((H.out.below hqb).more hqb.size)).mono ?_
  rintro e w1 ⟨⟨gr, rfl⟩, b1⟩
  have BW := Lib.hid (hqb.trans (b1.mono hqb.size))
  have XD := Lib.hid ((b1.block _ (heap_lt hq0)).trans hq0)
  obtain ⟨k0, k1⟩ := cell2_of XD.out
  clear hq0 hqb b1
  cases gr with
  | true =>
    go_wp2_with fail
    go_ret
    exact ⟨rfl, HP0.out ▸ BW.out⟩
  | false =>
    by_cases hl : (10000 : Int) < bs.length
    · go_wp2_with fail
      go_ret
      exact ⟨rfl, HP0.out ▸ BW.out⟩
    · have hl' : decide ((10000 : Int) < bs.length) = false := decide_eq_false hl
      clear hl
      go_wp2_with fail
      refine (HR1.out w1 BW.out).mono ?_
      rintro e wR ⟨yR, rfl, htR, bR⟩
      have TR := Lib.hid htR
      obtain ⟨AR, kR, rfl, -, -, -, -⟩ := htR
      clear k0 k1
      have tBW := BW.out.trans (bR.mono BW.out.size)
      have tXD := (bR.block _ (heap_lt XD.out)).trans XD.out
      clear BW XD
      have BW := Lib.hid tBW
      have XD := Lib.hid tXD
      clear tBW tXD bR
      obtain ⟨k0, k1⟩ := cell2_of XD.out
      go_wp2_with fail
      refine (HR2.out wR BW.out).mono ?_
      rintro e wV ⟨yV, rfl, htV, bV⟩
      have TV := Lib.hid htV
      obtain ⟨AV, kV, rfl, -, -, -, -⟩ := htV
      clear k0 k1
      have tBW := BW.out.trans (bV.mono BW.out.size)
      have tXD := (bV.block _ (heap_lt XD.out)).trans XD.out
      have tTR := (TR.out.below bV).more bV.size
      clear BW XD TR
      have BW := Lib.hid tBW
      have XD := Lib.hid tXD
      have TR := Lib.hid tTR
      clear tBW tXD tTR bV
      obtain ⟨k0, k1⟩ := cell2_of XD.out
      go_wp2_with fail
      refine (HW1.out wV BW.out).mono ?_
      rintro e wW ⟨dW, rfl, hdW, bW⟩
      obtain ⟨x1, x2, rfl, hsW, hwW⟩ := hdW
      obtain ⟨AW, kW, rfl⟩ := secs_slice hsW
      obtain ⟨EW, jW, rfl⟩ := wts_slice hwW
      clear k0 k1
      have tBW := BW.out.trans (bW.mono BW.out.size)
      have tXD := (bW.block _ (heap_lt XD.out)).trans XD.out
      have tTR := (TR.out.below bW).more bW.size
      have tTV := (TV.out.below bW).more bW.size
      clear BW XD TR TV
      have BW := Lib.hid tBW
      have XD := Lib.hid tXD
      have TR := Lib.hid tTR
      have TV := Lib.hid tTV
      clear tBW tXD tTR tTV bW
      have DW := Lib.hid (show DiskAt wW _ (.agg #[.slice AW S2.length kW, .slice EW W2.length jW]) S2 W2 from ⟨_, _, rfl, hsW, hwW⟩)
      clear hsW hwW
      have k0 : ∀ o, (wW.alloc o).cell? ⟨p0, 0, none⟩ = some (.slice A1 ss.length c1) := fun o => (cell2_of (((below_new wW o).block _ (heap_lt XD.out)).trans XD.out)).1
      have k1 : ∀ o, (wW.alloc o).cell? ⟨p0, 1, none⟩ = some (.slice A2 ws.length c2) := fun o => (cell2_of (((below_new wW o).block _ (heap_lt XD.out)).trans XD.out)).2
      go_wp2_with fail
      have hq := heap_alloc_self wW (.cells #[.slice AW S2.length kW, .slice EW W2.length jW] 25)
      have qb := below_new wW (.cells #[.slice AW S2.length kW, .slice EW W2.length jW] 25)
      clear k0 k1
      generalize wW.alloc (.cells #[.slice AW S2.length kW, .slice EW W2.length jW] 25) = qW at hq qb ⊢
      have tBW := BW.out.trans (qb.mono BW.out.size)
      have tXD := (qb.block _ (heap_lt XD.out)).trans XD.out
      have tTR := (TR.out.below qb).more qb.size
      have tTV := (TV.out.below qb).more qb.size
      have tDW := DW.out.below qb
      clear BW XD TR TV DW
      have BW := Lib.hid tBW
      have XD := Lib.hid tXD
      have TR := Lib.hid tTR
      have TV := Lib.hid tTV
      have DW := Lib.hid tDW
      clear tBW tXD tTR tTV tDW qb
      generalize wW.heap.size = pW at hq ⊢
      have XW := Lib.hid hq
      clear hq
      obtain ⟨k0, k1⟩ := cell2_of XD.out
      refine (HW2.out qW BW.out).mono ?_
      rintro e wF ⟨dF, rfl, hdF, bF⟩
      obtain ⟨x1, x2, rfl, hsF, hwF⟩ := hdF
      obtain ⟨AF, kF, rfl⟩ := secs_slice hsF
      obtain ⟨EF, jF, rfl⟩ := wts_slice hwF
      clear k0 k1
      have tBW := BW.out.trans (bF.mono BW.out.size)
      have tXD := (bF.block _ (heap_lt XD.out)).trans XD.out
      have tTR := (TR.out.below bF).more bF.size
      have tTV := (TV.out.below bF).more bF.size
      have tDW := DW.out.below bF
      have tXW := (bF.block _ (heap_lt XW.out)).trans XW.out
      clear BW XD TR TV DW XW
      have BW := Lib.hid tBW
      have XD := Lib.hid tXD
      have TR := Lib.hid tTR
      have TV := Lib.hid tTV
      have DW := Lib.hid tDW
      have XW := Lib.hid tXW
      clear tBW tXD tTR tTV tDW tXW bF
      have DF := Lib.hid (show DiskAt wF _ (.agg #[.slice AF S2.length kF, .slice EF W2.length jF]) S2 W2 from ⟨_, _, rfl, hsF, hwF⟩)
      clear hsF hwF
      have k0 : ∀ o, (wF.alloc o).cell? ⟨p0, 0, none⟩ = some (.slice A1 ss.length c1) := fun o => (cell2_of (((below_new wF o).block _ (heap_lt XD.out)).trans XD.out)).1
      have k1 : ∀ o, (wF.alloc o).cell? ⟨p0, 1, none⟩ = some (.slice A2 ws.length c2) := fun o => (cell2_of (((below_new wF o).block _ (heap_lt XD.out)).trans XD.out)).2
      go_wp2_with fail
      have hq := heap_alloc_self wF (.cells #[.slice AF S2.length kF, .slice EF W2.length jF] 25)
      have qb := below_new wF (.cells #[.slice AF S2.length kF, .slice EF W2.length jF] 25)
      clear k0 k1
      generalize wF.alloc (.cells #[.slice AF S2.length kF, .slice EF W2.length jF] 25) = qF at hq qb ⊢
      have tBW := BW.out.trans (qb.mono BW.out.size)
      have tXD := (qb.block _ (heap_lt XD.out)).trans XD.out
      have tTR := (TR.out.below qb).more qb.size
      have tTV := (TV.out.below qb).more qb.size
      have tDW := DW.out.below qb
      have tXW := (qb.block _ (heap_lt XW.out)).trans XW.out
      have tDF := DF.out.below qb
      clear BW XD TR TV DW XW DF
      have BW := Lib.hid tBW
      have XD := Lib.hid tXD
      have TR := Lib.hid tTR
      have TV := Lib.hid tTV
      have DW := Lib.hid tDW
      have XW := Lib.hid tXW
      have DF := Lib.hid tDF
      clear tBW tXD tTR tTV tDW tXW tDF qb
      generalize wF.heap.size = pF at hq ⊢
      have XF := Lib.hid hq
      clear hq
      obtain ⟨k0, k1⟩ := cell2_of XD.out
      refine (HY1.out qF BW.out).mono ?_
      rintro e wY ⟨dY, rfl, hdY, bY⟩
      obtain ⟨x1, x2, rfl, hsY, hwY⟩ := hdY
      obtain ⟨AY, kY, rfl⟩ := secs_slice hsY
      obtain ⟨EY, jY, rfl⟩ := wts_slice hwY
      clear k0 k1
      have tBW := BW.out.trans (bY.mono BW.out.size)
      have tXD := (bY.block _ (heap_lt XD.out)).trans XD.out
      have tTR := (TR.out.below bY).more bY.size
      have tTV := (TV.out.below bY).more bY.size
      have tDW := DW.out.below bY
      have tXW := (bY.block _ (heap_lt XW.out)).trans XW.out
      have tDF := DF.out.below bY
      have tXF := (bY.block _ (heap_lt XF.out)).trans XF.out
      clear BW XD TR TV DW XW DF XF
      have BW := Lib.hid tBW
      have XD := Lib.hid tXD
      have TR := Lib.hid tTR
      have TV := Lib.hid tTV
      have DW := Lib.hid tDW
      have XW := Lib.hid tXW
      have DF := Lib.hid tDF
      have XF := Lib.hid tXF
      clear tBW tXD tTR tTV tDW tXW tDF tXF bY
      have DY := Lib.hid (show DiskAt wY _ (.agg #[.slice AY S3.length kY, .slice EY 0 jY]) S3 [] from ⟨_, _, rfl, hsY, hwY⟩)
      clear hsY hwY
      have k0 : ∀ o, (wY.alloc o).cell? ⟨p0, 0, none⟩ = some (.slice A1 ss.length c1) := fun o => (cell2_of (((below_new wY o).block _ (heap_lt XD.out)).trans XD.out)).1
      have k1 : ∀ o, (wY.alloc o).cell? ⟨p0, 1, none⟩ = some (.slice A2 ws.length c2) := fun o => (cell2_of (((below_new wY o).block _ (heap_lt XD.out)).trans XD.out)).2
      go_wp2_with fail
      have hq := heap_alloc_self wY (.cells #[.slice AY S3.length kY, .slice EY 0 jY] 25)
      have qb := below_new wY (.cells #[.slice AY S3.length kY, .slice EY 0 jY] 25)
      clear k0 k1
      generalize wY.alloc (.cells #[.slice AY S3.length kY, .slice EY 0 jY] 25) = qY at hq qb ⊢
      have tBW := BW.out.trans (qb.mono BW.out.size)
      have tXD := (qb.block _ (heap_lt XD.out)).trans XD.out
      have tTR := (TR.out.below qb).more qb.size
      have tTV := (TV.out.below qb).more qb.size
      have tDW := DW.out.below qb
      have tXW := (qb.block _ (heap_lt XW.out)).trans XW.out
      have tDF := DF.out.below qb
      have tXF := (qb.block _ (heap_lt XF.out)).trans XF.out
      have tDY := DY.out.below qb
      clear BW XD TR TV DW XW DF XF DY
      have BW := Lib.hid tBW
      have XD := Lib.hid tXD
      have TR := Lib.hid tTR
      have TV := Lib.hid tTV
      have DW := Lib.hid tDW
      have XW := Lib.hid tXW
      have DF := Lib.hid tDF
      have XF := Lib.hid tXF
      have DY := Lib.hid tDY
      clear tBW tXD tTR tTV tDW tXW tDF tXF tDY qb
      generalize wY.heap.size = pY at hq ⊢
      have XY := Lib.hid hq
      clear hq
      obtain ⟨k0, k1⟩ := cell2_of XD.out
      refine (HY2.out qY BW.out).mono ?_
      rintro e wZ ⟨dZ, rfl, hdZ, bZ⟩
      obtain ⟨x1, x2, rfl, hsZ, hwZ⟩ := hdZ
      obtain ⟨AZ, kZ, rfl⟩ := secs_slice hsZ
      obtain ⟨EZ, jZ, rfl⟩ := wts_slice hwZ
      clear k0 k1
      have tBW := BW.out.trans (bZ.mono BW.out.size)
      have tXD := (bZ.block _ (heap_lt XD.out)).trans XD.out
      have tTR := (TR.out.below bZ).more bZ.size
      have tTV := (TV.out.below bZ).more bZ.size
      have tDW := DW.out.below bZ
      have tXW := (bZ.block _ (heap_lt XW.out)).trans XW.out
      have tDF := DF.out.below bZ
      have tXF := (bZ.block _ (heap_lt XF.out)).trans XF.out
      have tDY := DY.out.below bZ
      have tXY := (bZ.block _ (heap_lt XY.out)).trans XY.out
      clear BW XD TR TV DW XW DF XF DY XY
      have BW := Lib.hid tBW
      have XD := Lib.hid tXD
      have TR := Lib.hid tTR
      have TV := Lib.hid tTV
      have DW := Lib.hid tDW
      have XW := Lib.hid tXW
      have DF := Lib.hid tDF
      have XF := Lib.hid tXF
      have DY := Lib.hid tDY
      have XY := Lib.hid tXY
      clear tBW tXD tTR tTV tDW tXW tDF tXF tDY tXY bZ
      have DZ := Lib.hid (show DiskAt wZ _ (.agg #[.slice AZ S3.length kZ, .slice EZ 0 jZ]) S3 [] from ⟨_, _, rfl, hsZ, hwZ⟩)
      clear hsZ hwZ
      have k0 : ∀ o, (wZ.alloc o).cell? ⟨p0, 0, none⟩ = some (.slice A1 ss.length c1) := fun o => (cell2_of (((below_new wZ o).block _ (heap_lt XD.out)).trans XD.out)).1
      have k1 : ∀ o, (wZ.alloc o).cell? ⟨p0, 1, none⟩ = some (.slice A2 ws.length c2) := fun o => (cell2_of (((below_new wZ o).block _ (heap_lt XD.out)).trans XD.out)).2
      go_wp2_with fail
      have hq := heap_alloc_self wZ (.cells #[.slice AZ S3.length kZ, .slice EZ 0 jZ] 25)
      have qb := below_new wZ (.cells #[.slice AZ S3.length kZ, .slice EZ 0 jZ] 25)
      clear k0 k1
      generalize wZ.alloc (.cells #[.slice AZ S3.length kZ, .slice EZ 0 jZ] 25) = qZ at hq qb ⊢
      have tBW := BW.out.trans (qb.mono BW.out.size)
      have tXD := (qb.block _ (heap_lt XD.out)).trans XD.out
      have tTR := (TR.out.below qb).more qb.size
      have tTV := (TV.out.below qb).more qb.size
      have tDW := DW.out.below qb
      have tXW := (qb.block _ (heap_lt XW.out)).trans XW.out
      have tDF := DF.out.below qb
      have tXF := (qb.block _ (heap_lt XF.out)).trans XF.out
      have tDY := DY.out.below qb
      have tXY := (qb.block _ (heap_lt XY.out)).trans XY.out
      have tDZ := DZ.out.below qb
      clear BW XD TR TV DW XW DF XF DY XY DZ
      have BW := Lib.hid tBW
      have XD := Lib.hid tXD
      have TR := Lib.hid tTR
      have TV := Lib.hid tTV
      have DW := Lib.hid tDW
      have XW := Lib.hid tXW
      have DF := Lib.hid tDF
      have XF := Lib.hid tXF
      have DY := Lib.hid tDY
      have XY := Lib.hid tXY
      have DZ := Lib.hid tDZ
      clear tBW tXD tTR tTV tDW tXW tDF tXF tDY tXY tDZ qb
      generalize wZ.heap.size = pZ at hq ⊢
      have XZ := Lib.hid hq
      clear hq
      obtain ⟨k0, k1⟩ := cell2_of XD.out
      clear k0 k1
      refine wp_region_held_drew (S := fun v => Below qZ.heap.size qZ v) (by kernel_rfl) ((Below.refl _ qZ).drew) (fun hHeld => ?_)
      refine wpAnyH_take (i := 0) (v := ?_) rfl (by kernel_rfl) (by kernel_rfl) (by kernel_rfl) (fun _ _ _ h => h) (Or.inl ⟨by rfl, ?_⟩) hHeld ?_
      rotate_left
      · intro w' hSw; go_simp; try with_reducible rfl
      simp only [List.getElem_toArray, List.getElem_cons_succ, List.getElem_cons_zero, Act.put, List.setIfInBounds_toArray, List.set_cons_zero, List.set_cons_succ]
      refine wpAnyH_take (i := 1) (v := ?_) rfl (by kernel_rfl) (by kernel_rfl) (by kernel_rfl) (fun _ _ _ h => h) (Or.inl ⟨by rfl, ?_⟩) hHeld ?_
      rotate_left
      · intro w' hSw; go_simp; try with_reducible rfl
      simp only [List.getElem_toArray, List.getElem_cons_succ, List.getElem_cons_zero, Act.put, List.setIfInBounds_toArray, List.set_cons_zero, List.set_cons_succ]
      refine wpAnyH_take (i := 2) (v := ?_) rfl (by kernel_rfl) (by kernel_rfl) (by kernel_rfl) (fun _ _ _ h => h) (Or.inl ⟨by rfl, ?_⟩) hHeld ?_
      rotate_left
      · intro w' hSw; go_simp; try with_reducible rfl
      simp only [List.getElem_toArray, List.getElem_cons_succ, List.getElem_cons_zero, Act.put, List.setIfInBounds_toArray, List.set_cons_zero, List.set_cons_succ]
      refine wpAnyH_take (i := 3) (v := ?_) rfl (by kernel_rfl) (by kernel_rfl) (by kernel_rfl) (fun _ _ _ h => h) (Or.inl ⟨by rfl, ?_⟩) hHeld ?_
      rotate_left
      · intro w' hSw; go_simp; try with_reducible rfl
      simp only [List.getElem_toArray, List.getElem_cons_succ, List.getElem_cons_zero, Act.put, List.setIfInBounds_toArray, List.set_cons_zero, List.set_cons_succ]
      refine wpAnyH_take (i := 4) (v := ?_) rfl (by kernel_rfl) (by kernel_rfl) (by kernel_rfl) (fun _ _ _ h => h) (Or.inl ⟨by rfl, ?_⟩) hHeld ?_
      rotate_left
      · intro w' hSw; go_simp; try with_reducible rfl
      simp only [List.getElem_toArray, List.getElem_cons_succ, List.getElem_cons_zero, Act.put, List.setIfInBounds_toArray, List.set_cons_zero, List.set_cons_succ]
      refine wpAnyH_take (i := 5) (v := ?_) rfl (by kernel_rfl) (by kernel_rfl) (by kernel_rfl) (fun _ _ _ h => h) (Or.inl ⟨by rfl, ?_⟩) hHeld ?_
      rotate_left
      · intro w' hSw; go_simp; try with_reducible rfl
      simp only [List.getElem_toArray, List.getElem_cons_succ, List.getElem_cons_zero, Act.put, List.setIfInBounds_toArray, List.set_cons_zero, List.set_cons_succ]
      refine wpAnyH_take (i := 6) (v := ?_) rfl (by kernel_rfl) (by kernel_rfl) (by kernel_rfl) (fun _ _ _ h => h) (Or.inl ⟨by rfl, ?_⟩) hHeld ?_
      rotate_left
      · intro w' hSw; go_simp; try with_reducible rfl
      simp only [List.getElem_toArray, List.getElem_cons_succ, List.getElem_cons_zero, Act.put, List.setIfInBounds_toArray, List.set_cons_zero, List.set_cons_succ]
      refine wpAnyH_take (i := 7) (v := ?_) rfl (by kernel_rfl) (by kernel_rfl) (by kernel_rfl) (fun _ _ _ h => h) (Or.inl ⟨by rfl, ?_⟩) hHeld ?_
      rotate_left
      · intro w' hSw; go_simp; try with_reducible rfl
      simp only [List.getElem_toArray, List.getElem_cons_succ, List.getElem_cons_zero, Act.put, List.setIfInBounds_toArray, List.set_cons_zero, List.set_cons_succ]
      refine wpAnyH_take (i := 8) (v := ?_) rfl (by kernel_rfl) (by kernel_rfl) (by kernel_rfl) (fun _ _ _ h => h) (Or.inl ⟨by rfl, ?_⟩) hHeld ?_
      rotate_left
      · intro w' hSw; go_simp; try with_reducible rfl
      simp only [List.getElem_toArray, List.getElem_cons_succ, List.getElem_cons_zero, Act.put, List.setIfInBounds_toArray, List.set_cons_zero, List.set_cons_succ]
      refine wpAnyH_take (i := 9) (v := ?_) rfl (by kernel_rfl) (by kernel_rfl) (by kernel_rfl) (fun _ _ _ h => h) (Or.inl ⟨by rfl, ?_⟩) hHeld ?_
      rotate_left
      · intro w' hSw; go_simp; try with_reducible rfl
      simp only [List.getElem_toArray, List.getElem_cons_succ, List.getElem_cons_zero, Act.put, List.setIfInBounds_toArray, List.set_cons_zero, List.set_cons_succ]
      refine wpAnyH_take (i := 10) (v := ?_) rfl (by kernel_rfl) (by kernel_rfl) (by kernel_rfl) (fun _ _ _ h => h) (Or.inl ⟨by rfl, ?_⟩) hHeld ?_
      rotate_left
      · intro w' hSw; go_simp; try with_reducible rfl
      simp only [List.getElem_toArray, List.getElem_cons_succ, List.getElem_cons_zero, Act.put, List.setIfInBounds_toArray, List.set_cons_zero, List.set_cons_succ]
      refine wpAnyH_take (i := 11) (v := ?_) rfl (by kernel_rfl) (by kernel_rfl) (by kernel_rfl) (fun _ _ _ h => h) (Or.inl ⟨by rfl, ?_⟩) hHeld ?_
      rotate_left
      · intro w' hSw; go_simp; try with_reducible rfl
      simp only [List.getElem_toArray, List.getElem_cons_succ, List.getElem_cons_zero, Act.put, List.setIfInBounds_toArray, List.set_cons_zero, List.set_cons_succ]
      refine wpAnyH_take (i := 12) (v := ?_) rfl (by kernel_rfl) (by kernel_rfl) (by kernel_rfl) (fun _ _ _ h => h) (Or.inl ⟨by rfl, ?_⟩) hHeld ?_
      rotate_left
      · intro w' hSw; go_simp; try with_reducible rfl
      simp only [List.getElem_toArray, List.getElem_cons_succ, List.getElem_cons_zero, Act.put, List.setIfInBounds_toArray, List.set_cons_zero, List.set_cons_succ]
      refine wpAnyH_take (i := 13) (v := ?_) rfl (by kernel_rfl) (by kernel_rfl) (by kernel_rfl) (fun _ _ _ h => h) (Or.inl ⟨by rfl, ?_⟩) hHeld ?_
      rotate_left
      · intro w' hSw; go_simp; try with_reducible rfl
      simp only [List.getElem_toArray, List.getElem_cons_succ, List.getElem_cons_zero, Act.put, List.setIfInBounds_toArray, List.set_cons_zero, List.set_cons_succ]
      refine wpAnyH_take (i := 14) (v := ?_) rfl (by kernel_rfl) (by kernel_rfl) (by kernel_rfl) (fun _ _ _ h => h) (Or.inl ⟨by rfl, ?_⟩) hHeld ?_
      rotate_left
      · intro w' hSw; obtain ⟨c0, c1⟩ := cell2_of (((show Below qZ.heap.size qZ w' from hSw).block _ (heap_lt XD.out)).trans XD.out); go_simp; try with_reducible rfl
      simp only [List.getElem_toArray, List.getElem_cons_succ, List.getElem_cons_zero, Act.put, List.setIfInBounds_toArray, List.set_cons_zero, List.set_cons_succ]
      refine wpAnyH_take (i := 16) (v := ?_) rfl (by kernel_rfl) (by kernel_rfl) (by kernel_rfl) (fun _ _ _ h => h) (Or.inl ⟨by rfl, ?_⟩) hHeld ?_
      rotate_left
      · intro w' hSw; obtain ⟨c0, c1⟩ := cell2_of (((show Below qZ.heap.size qZ w' from hSw).block _ (heap_lt XD.out)).trans XD.out); go_simp; try with_reducible rfl
      simp only [List.getElem_toArray, List.getElem_cons_succ, List.getElem_cons_zero, Act.put, List.setIfInBounds_toArray, List.set_cons_zero, List.set_cons_succ]
      refine wpAnyH_ready (rs := [15]) (by kernel_rfl) (by simp) ?_
      refine AllReadyH.cons rfl (fun K hK => ?_) AllReadyH.nil
      go_simp
      refine (HK1.out qZ.drew (BW.out.drew)).mono ?_
      rintro e wA ⟨rfl, bwA⟩
      have HwA : Hid (Below qZ.heap.size qZ wA) := Lib.hid ((Below.refl _ qZ).drew.trans bwA)
      clear bwA
      try go_wp2_with fail
      refine hK.out _ _ ?_ (fun hHeld => ?_)
      · exact HwA.out
      clear hK K
      try simp only [List.getElem_toArray, List.getElem_cons_succ, List.getElem_cons_zero, Act.put, List.setIfInBounds_toArray, List.set_cons_zero, List.set_cons_succ]
      refine wpAnyH_ready (rs := [17]) (by kernel_rfl) (by simp) ?_
      refine AllReadyH.cons rfl (fun K hK => ?_) AllReadyH.nil
      go_simp
      refine (HK2.out wA (BW.out.trans (HwA.out.mono BW.out.size))).mono ?_
      rintro e wB ⟨rfl, bwB⟩
      have HwB : Hid (Below qZ.heap.size qZ wB) := Lib.hid (HwA.out.trans (bwB.mono HwA.out.size))
      clear bwB
      try go_wp2_with fail
      refine hK.out _ _ ?_ (fun hHeld => ?_)
      · exact HwB.out
      clear hK K
      try simp only [List.getElem_toArray, List.getElem_cons_succ, List.getElem_cons_zero, Act.put, List.setIfInBounds_toArray, List.set_cons_zero, List.set_cons_succ]
      refine wpAnyH_take (i := 18) (v := ?_) rfl (by kernel_rfl) (by kernel_rfl) (by kernel_rfl) (fun _ _ _ h => h) (Or.inl ⟨by rfl, ?_⟩) hHeld ?_
      rotate_left
      · intro w' hSw; go_simp; try with_reducible rfl
      simp only [List.getElem_toArray, List.getElem_cons_succ, List.getElem_cons_zero, Act.put, List.setIfInBounds_toArray, List.set_cons_zero, List.set_cons_succ]
      refine wpAnyH_take (i := 19) (v := ?_) rfl (by kernel_rfl) (by kernel_rfl) (by kernel_rfl) (fun _ _ _ h => h) (Or.inl ⟨by rfl, ?_⟩) hHeld ?_
      rotate_left
      · intro w' hSw; go_simp; try with_reducible rfl
      simp only [List.getElem_toArray, List.getElem_cons_succ, List.getElem_cons_zero, Act.put, List.setIfInBounds_toArray, List.set_cons_zero, List.set_cons_succ]
      refine wpAnyH_take (i := 20) (v := ?_) rfl (by kernel_rfl) (by kernel_rfl) (by kernel_rfl) (fun _ _ _ h => h) (Or.inl ⟨by rfl, ?_⟩) hHeld ?_
      rotate_left
      · intro w' hSw; go_simp; try with_reducible rfl
      simp only [List.getElem_toArray, List.getElem_cons_succ, List.getElem_cons_zero, Act.put, List.setIfInBounds_toArray, List.set_cons_zero, List.set_cons_succ]
      refine wpAnyH_done (by kernel_rfl) ?_ _
      have hAB := HwB.out
      have tBW := BW.out.trans (hAB.mono BW.out.size)
      have tXD := (hAB.block _ (heap_lt XD.out)).trans XD.out
      have tTR := (TR.out.below hAB).more hAB.size
      have tTV := (TV.out.below hAB).more hAB.size
      have tDW := DW.out.below hAB
      have tXW := (hAB.block _ (heap_lt XW.out)).trans XW.out
      have tDF := DF.out.below hAB
      have tXF := (hAB.block _ (heap_lt XF.out)).trans XF.out
      have tDY := DY.out.below hAB
      have tXY := (hAB.block _ (heap_lt XY.out)).trans XY.out
      have tDZ := DZ.out.below hAB
      have tXZ := (hAB.block _ (heap_lt XZ.out)).trans XZ.out
      clear BW XD TR TV DW XW DF XF DY XY DZ XZ
      have BW := Lib.hid tBW
      have XD := Lib.hid tXD
      have TR := Lib.hid tTR
      have TV := Lib.hid tTV
      have DW := Lib.hid tDW
      have XW := Lib.hid tXW
      have DF := Lib.hid tDF
      have XF := Lib.hid tXF
      have DY := Lib.hid tDY
      have XY := Lib.hid tXY
      have DZ := Lib.hid tDZ
      have XZ := Lib.hid tXZ
      clear tBW tXD tTR tTV tDW tXW tDF tXF tDY tXY tDZ tXZ hAB
      have hcv1 := run_txt_string TR.out
      have hcv2 := run_txt_string TV.out
      obtain ⟨m0, m1⟩ := cell2_of XW.out
      obtain ⟨m2, m3⟩ := cell2_of XF.out
      go_wp2_with fail
      refine (rsame_any (.agg #[.slice AW S2.length kW, .slice EW W2.length jW]) (.agg #[.slice AF S2.length kF, .slice EF W2.length jF]) S2 S2 W2 W2 wB DW.out.in_ DF.out.in_ TS2.out TS2.out).mono ?_
      rw [sameT_self]
      rintro e wS ⟨rfl, bwS⟩
      clear m0 m1 m2 m3 hcv1 hcv2
      have tBW := BW.out.trans (bwS.mono BW.out.size)
      have tXD := (bwS.block _ (heap_lt XD.out)).trans XD.out
      have tTR := (TR.out.below bwS).more bwS.size
      have tTV := (TV.out.below bwS).more bwS.size
      have tDW := DW.out.below bwS
      have tXW := (bwS.block _ (heap_lt XW.out)).trans XW.out
      have tDF := DF.out.below bwS
      have tXF := (bwS.block _ (heap_lt XF.out)).trans XF.out
      have tDY := DY.out.below bwS
      have tXY := (bwS.block _ (heap_lt XY.out)).trans XY.out
      have tDZ := DZ.out.below bwS
      have tXZ := (bwS.block _ (heap_lt XZ.out)).trans XZ.out
      clear BW XD TR TV DW XW DF XF DY XY DZ XZ
      have BW := Lib.hid tBW
      have XD := Lib.hid tXD
      have TR := Lib.hid tTR
      have TV := Lib.hid tTV
      have DW := Lib.hid tDW
      have XW := Lib.hid tXW
      have DF := Lib.hid tDF
      have XF := Lib.hid tXF
      have DY := Lib.hid tDY
      have XY := Lib.hid tXY
      have DZ := Lib.hid tDZ
      have XZ := Lib.hid tXZ
      clear tBW tXD tTR tTV tDW tXW tDF tXF tDY tXY tDZ tXZ bwS
      obtain ⟨m0, m1⟩ := cell2_of XY.out
      obtain ⟨m2, m3⟩ := cell2_of XZ.out
      go_wp2_with fail
      refine (rsame_any (.agg #[.slice AY S3.length kY, .slice EY 0 jY]) (.agg #[.slice AZ S3.length kZ, .slice EZ 0 jZ]) S3 S3 [] [] wS DY.out.in_ DZ.out.in_ TS3.out TS3.out).mono ?_
      rw [sameT_self]
      rintro e wT ⟨rfl, bwT⟩
      clear m0 m1 m2 m3
      have tBW := BW.out.trans (bwT.mono BW.out.size)
      have tXD := (bwT.block _ (heap_lt XD.out)).trans XD.out
      have tTR := (TR.out.below bwT).more bwT.size
      have tTV := (TV.out.below bwT).more bwT.size
      have tDW := DW.out.below bwT
      have tXW := (bwT.block _ (heap_lt XW.out)).trans XW.out
      have tDF := DF.out.below bwT
      have tXF := (bwT.block _ (heap_lt XF.out)).trans XF.out
      have tDY := DY.out.below bwT
      have tXY := (bwT.block _ (heap_lt XY.out)).trans XY.out
      have tDZ := DZ.out.below bwT
      have tXZ := (bwT.block _ (heap_lt XZ.out)).trans XZ.out
      clear BW XD TR TV DW XW DF XF DY XY DZ XZ
      have BW := Lib.hid tBW
      have XD := Lib.hid tXD
      have TR := Lib.hid tTR
      have TV := Lib.hid tTV
      have DW := Lib.hid tDW
      have XW := Lib.hid tXW
      have DF := Lib.hid tDF
      have XF := Lib.hid tXF
      have DY := Lib.hid tDY
      have XY := Lib.hid tXY
      have DZ := Lib.hid tDZ
      have XZ := Lib.hid tXZ
      clear tBW tXD tTR tTV tDW tXW tDF tXF tDY tXY tDZ tXZ bwT
      go_wp2_with fail
      refine (new_any wT).mono ?_
      rintro e wM ⟨y1, rfl, hs1, bM⟩
      obtain ⟨AM, kM, rfl⟩ := secs_slice hs1
      have DM := Lib.hid (show DiskAt wM _ (.agg #[.slice AM newD.length kM, .slice none 0 0]) newD [] from ⟨_, _, rfl, hs1, WtsAt.nil_ _ wT.heap.size⟩)
      clear hs1
      have tBW := BW.out.trans (bM.mono BW.out.size)
      have tXD := (bM.block _ (heap_lt XD.out)).trans XD.out
      have tTR := (TR.out.below bM).more bM.size
      have tTV := (TV.out.below bM).more bM.size
      have tDW := DW.out.below bM
      have tXW := (bM.block _ (heap_lt XW.out)).trans XW.out
      have tDF := DF.out.below bM
      have tXF := (bM.block _ (heap_lt XF.out)).trans XF.out
      have tDY := DY.out.below bM
      have tXY := (bM.block _ (heap_lt XY.out)).trans XY.out
      have tDZ := DZ.out.below bM
      have tXZ := (bM.block _ (heap_lt XZ.out)).trans XZ.out
      clear BW XD TR TV DW XW DF XF DY XY DZ XZ
      have BW := Lib.hid tBW
      have XD := Lib.hid tXD
      have TR := Lib.hid tTR
      have TV := Lib.hid tTV
      have DW := Lib.hid tDW
      have XW := Lib.hid tXW
      have DF := Lib.hid tDF
      have XF := Lib.hid tXF
      have DY := Lib.hid tDY
      have XY := Lib.hid tXY
      have DZ := Lib.hid tDZ
      have XZ := Lib.hid tXZ
      clear tBW tXD tTR tTV tDW tXW tDF tXF tDY tXY tDZ tXZ bM
      go_wp2_with fail
      refine (rnew_any wM).mono ?_
      rintro e wO ⟨y1, rfl, hs1, bO⟩
      obtain ⟨AO, kO, rfl⟩ := secs_slice hs1
      have DO := Lib.hid (show DiskAt wO _ (.agg #[.slice AO newD.length kO, .slice none 0 0]) newD [] from ⟨_, _, rfl, hs1, WtsAt.nil_ _ wM.heap.size⟩)
      have DM2 := Lib.hid (DM.out.below bO)
      clear hs1
      have tBW := BW.out.trans (bO.mono BW.out.size)
      have tXD := (bO.block _ (heap_lt XD.out)).trans XD.out
      have tTR := (TR.out.below bO).more bO.size
      have tTV := (TV.out.below bO).more bO.size
      have tDW := DW.out.below bO
      have tXW := (bO.block _ (heap_lt XW.out)).trans XW.out
      have tDF := DF.out.below bO
      have tXF := (bO.block _ (heap_lt XF.out)).trans XF.out
      have tDY := DY.out.below bO
      have tXY := (bO.block _ (heap_lt XY.out)).trans XY.out
      have tDZ := DZ.out.below bO
      have tXZ := (bO.block _ (heap_lt XZ.out)).trans XZ.out
      clear BW XD TR TV DW XW DF XF DY XY DZ XZ
      have BW := Lib.hid tBW
      have XD := Lib.hid tXD
      have TR := Lib.hid tTR
      have TV := Lib.hid tTV
      have DW := Lib.hid tDW
      have XW := Lib.hid tXW
      have DF := Lib.hid tDF
      have XF := Lib.hid tXF
      have DY := Lib.hid tDY
      have XY := Lib.hid tXY
      have DZ := Lib.hid tDZ
      have XZ := Lib.hid tXZ
      clear tBW tXD tTR tTV tDW tXW tDF tXF tDY tXY tDZ tXZ bO
      go_wp2_with fail
      refine (rsame_any (.agg #[.slice AM newD.length kM, .slice none 0 0]) (.agg #[.slice AO newD.length kO, .slice none 0 0]) newD newD [] [] wO DM2.out.in_ DO.out.in_ TSN.out TSN.out).mono ?_
      rw [sameT_self]
      rintro e wU ⟨rfl, bU⟩
      have tBW := BW.out.trans (bU.mono BW.out.size)
      have tXD := (bU.block _ (heap_lt XD.out)).trans XD.out
      have tTR := (TR.out.below bU).more bU.size
      have tTV := (TV.out.below bU).more bU.size
      have tDW := DW.out.below bU
      have tXW := (bU.block _ (heap_lt XW.out)).trans XW.out
      have tDF := DF.out.below bU
      have tXF := (bU.block _ (heap_lt XF.out)).trans XF.out
      have tDY := DY.out.below bU
      have tXY := (bU.block _ (heap_lt XY.out)).trans XY.out
      have tDZ := DZ.out.below bU
      have tXZ := (bU.block _ (heap_lt XZ.out)).trans XZ.out
      clear BW XD TR TV DW XW DF XF DY XY DZ XZ
      have BW := Lib.hid tBW
      have XD := Lib.hid tXD
      have TR := Lib.hid tTR
      have TV := Lib.hid tTV
      have DW := Lib.hid tDW
      have XW := Lib.hid tXW
      have DF := Lib.hid tDF
      have XF := Lib.hid tXF
      have DY := Lib.hid tDY
      have XY := Lib.hid tXY
      have DZ := Lib.hid tDZ
      have XZ := Lib.hid tXZ
      clear tBW tXD tTR tTV tDW tXW tDF tXF tDY tXY tDZ tXZ bU
      go_wp2_with fail
      go_ret
      exact ⟨rfl, HP0.out ▸ BW.out⟩
end Go.Proofs.Ytdpjdobmnkadjaa
