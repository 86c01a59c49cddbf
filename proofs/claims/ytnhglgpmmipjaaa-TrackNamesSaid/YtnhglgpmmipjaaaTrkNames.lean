/-
  The statement TrackNames' text returns true: the limits' and errors' numbers, and the chapter's examples.
  Conditions: none.
-/
import Derived.Test.YtnhglgpmmipjaaaTrkAlive
set_option linter.unusedVariables false
set_option linter.unusedSimpArgs false
set_option maxRecDepth 100000
namespace Go.Proofs.Ytnhglgpmmipjaaa
open Go.RowKit

theorem next_bad {id k : Int} (h : ¬ atS secsT id < 0) (hk : k < 0 ∨ ((secsT.getD (atS secsT id).toNat (0, 0, [])).2.2.length : Int) ≤ k) : nextE7 secsT id k = 2 ∧ nextJ7 secsT id k = (0, 0) := by
  have hE : findE7 secsT id = 0 := by rw [findE_of mayThree, if_neg h]
  have hS : findS7 secsT id = secsT.getD (atS secsT id).toNat (0, 0, []) := by rw [findS7, hE, if_pos rfl]
  have hN : nextE7 secsT id k = 2 := by rw [nextE7, hE, if_pos rfl, hS, if_pos hk]
  exact ⟨hN, by rw [nextJ7, hN]; rfl⟩
theorem next_none {id k : Int} (h : atS secsT id < 0) : nextE7 secsT id k = 6 ∧ nextJ7 secsT id k = (0, 0) := by
  have hE : findE7 secsT id = 6 := by rw [findE_of mayThree, if_pos h]
  have hN : nextE7 secsT id k = 6 := by rw [nextE7, hE]; rfl
  exact ⟨hN, by rw [nextJ7, hN]; rfl⟩

set_option maxHeartbeats 16000000 in
theorem walk_names (hp : TrkSaid) (w : World) : Calls Try.prog 3 #[] w fun e w' => e = .returned (.bool true) ∧ Below w.heap.size w w' := by
  obtain ⟨n1, n2⟩ := next_bad (id := 1) (k := 2) (by decide) (by decide)
  obtain ⟨n3, n4⟩ := next_none (id := 9) (k := 0) (by decide)
  have N1 := Lib.hid n1
  have N2 := Lib.hid n2
  have N3 := Lib.hid n3
  have N4 := Lib.hid n4
  clear n1 n2 n3 n4
  go_enter Try.func3, Try.ntmps3
  go_wp2_with fail
  refine (three_any w).mono ?_
  rintro e w1 ⟨A1, c1, rfl, hs1, b1⟩
  have S := Lib.hid hs1
  have B := Lib.hid b1
  clear hs1 b1
  go_wp2_with fail
  refine (hp.next _ secsT 1 2 w1 S.out).mono ?_
  rintro e w2 ⟨rfl, b2⟩
  rw [N1.out, N2.out]
  dsimp only
  have hb := below_new w2 (.cells #[.int .i64 0, .int .i64 0] 25)
  have b := b2.trans (hb.mono b2.size)
  go_upto_region 3 with fail
  generalize w2.alloc (.cells #[.int .i64 0, .int .i64 0] 25) = q2 at hb b ⊢
  have tS := (S.out.below secR_ b).more secR_ b.size
  have tB := B.out.trans (b.mono B.out.size)
  generalize w2.heap.size = p2
  clear S B b2 hb b
  have S := Lib.hid tS
  have B := Lib.hid tB
  clear tS tB
  go_wp2_with fail
  refine (hp.next _ secsT 9 0 q2 S.out).mono ?_
  rintro e w3 ⟨rfl, b3⟩
  rw [N3.out, N4.out]
  dsimp only
  have hb := below_new w3 (.cells #[.int .i64 0, .int .i64 0] 25)
  have b := b3.trans (hb.mono b3.size)
  go_upto_region 4 with fail
  generalize w3.alloc (.cells #[.int .i64 0, .int .i64 0] 25) = q3 at hb b ⊢
  have tS := (S.out.below secR_ b).more secR_ b.size
  have tB := B.out.trans (b.mono B.out.size)
  generalize w3.heap.size = p3
  clear S B b3 hb b
  have S := Lib.hid tS
  have B := Lib.hid tB
  clear tS tB
  obtain ⟨b, off, hA, -, hc0, hc1, u, hc2, hu⟩ := S.out.at (j := 1) (by decide)
  cases hA
  obtain ⟨Au, cu, rfl, -, -⟩ := hu.slice
  have hg0 : q3.cell? ⟨b, off + 3, none⟩ = some (.int .i64 sec2.1) := hc0
  have hg1 : q3.cell? ⟨b, off + 3 + 1, none⟩ = some (.int .i64 sec2.2.1) := hc1
  have hg2 : q3.cell? ⟨b, off + 3 + 2, none⟩ = some (.slice Au sec2.2.2.length cu) := hc2
  have SV : Hid (SecV q3 q3.heap.size (.agg #[.int .i64 sec2.1, .int .i64 sec2.2.1, .slice Au sec2.2.2.length cu]) sec2) := Lib.hid ⟨_, rfl, hu⟩
  clear hc0 hc1 hc2 hu
  go_wp2_with fail
  refine (hp.through _ sec2 0 2 q3 SV.out).mono ?_
  rintro e w4 ⟨rfl, b4⟩
  rw [show thrL sec2 0 2 = 2 from by decide, show thrE sec2 0 2 = 0 from by decide]
  have tS := (S.out.below secR_ b4).more secR_ b4.size
  have tB := B.out.trans (b4.mono B.out.size)
  clear S B SV b4 hg0 hg1 hg2
  have S := Lib.hid tS
  have B := Lib.hid tB
  clear tS tB
  obtain ⟨b', off', hA, -, hc0, hc1, u, hc2, hu⟩ := S.out.at (j := 1) (by decide)
  cases hA
  obtain ⟨Au, cu, rfl, -, -⟩ := hu.slice
  have hg0 : w4.cell? ⟨b, off + 3, none⟩ = some (.int .i64 sec2.1) := hc0
  have hg1 : w4.cell? ⟨b, off + 3 + 1, none⟩ = some (.int .i64 sec2.2.1) := hc1
  have hg2 : w4.cell? ⟨b, off + 3 + 2, none⟩ = some (.slice Au sec2.2.2.length cu) := hc2
  have SV : Hid (SecV w4 w4.heap.size (.agg #[.int .i64 sec2.1, .int .i64 sec2.2.1, .slice Au sec2.2.2.length cu]) sec2) := Lib.hid ⟨_, rfl, hu⟩
  clear hc0 hc1 hc2 hu
  go_wp2_with fail
  refine (hp.through _ sec2 1 0 w4 SV.out).mono ?_
  rintro e w5 ⟨rfl, b5⟩
  rw [show thrL sec2 1 0 = 1 from by decide, show thrE sec2 1 0 = 0 from by decide]
  have tS := (S.out.below secR_ b5).more secR_ b5.size
  have tB := B.out.trans (b5.mono B.out.size)
  clear S B SV b5 hg0 hg1 hg2
  have S := Lib.hid tS
  have B := Lib.hid tB
  clear tS tB
  obtain ⟨b', off', hA, -, hc0, hc1, u, hc2, hu⟩ := S.out.at (j := 1) (by decide)
  cases hA
  obtain ⟨Au, cu, rfl, -, -⟩ := hu.slice
  have hg0 : w5.cell? ⟨b, off + 3, none⟩ = some (.int .i64 sec2.1) := hc0
  have hg1 : w5.cell? ⟨b, off + 3 + 1, none⟩ = some (.int .i64 sec2.2.1) := hc1
  have hg2 : w5.cell? ⟨b, off + 3 + 2, none⟩ = some (.slice Au sec2.2.2.length cu) := hc2
  have SV : Hid (SecV w5 w5.heap.size (.agg #[.int .i64 sec2.1, .int .i64 sec2.2.1, .slice Au sec2.2.2.length cu]) sec2) := Lib.hid ⟨_, rfl, hu⟩
  clear hc0 hc1 hc2 hu
  go_wp2_with fail
  refine (hp.through _ sec2 1 2 w5 SV.out).mono ?_
  rintro e w6 ⟨rfl, b6⟩
  rw [show thrL sec2 1 2 = 0 from by decide, show thrE sec2 1 2 = 2 from by decide]
  have tS := (S.out.below secR_ b6).more secR_ b6.size
  have tB := B.out.trans (b6.mono B.out.size)
  clear S B SV b6 hg0 hg1 hg2
  have S := Lib.hid tS
  have B := Lib.hid tB
  clear tS tB
  obtain ⟨b', off', hA, -, hc0, hc1, u, hc2, hu⟩ := S.out.at (j := 2) (by decide)
  cases hA
  obtain ⟨Au, cu, rfl, -, -⟩ := hu.slice
  have hg0 : w6.cell? ⟨b, off + 6, none⟩ = some (.int .i64 sec3.1) := hc0
  have hg1 : w6.cell? ⟨b, off + 6 + 1, none⟩ = some (.int .i64 sec3.2.1) := hc1
  have hg2 : w6.cell? ⟨b, off + 6 + 2, none⟩ = some (.slice Au sec3.2.2.length cu) := hc2
  have SV : Hid (SecV w6 w6.heap.size (.agg #[.int .i64 sec3.1, .int .i64 sec3.2.1, .slice Au sec3.2.2.length cu]) sec3) := Lib.hid ⟨_, rfl, hu⟩
  clear hc0 hc1 hc2 hu
  go_wp2_with fail
  refine (hp.through _ sec3 0 1 w6 SV.out).mono ?_
  rintro e w7 ⟨rfl, b7⟩
  rw [show thrL sec3 0 1 = 0 from by decide, show thrE sec3 0 1 = 0 from by decide]
  have tS := (S.out.below secR_ b7).more secR_ b7.size
  have tB := B.out.trans (b7.mono B.out.size)
  clear S B SV b7 hg0 hg1 hg2
  have S := Lib.hid tS
  have B := Lib.hid tB
  clear tS tB
  obtain ⟨b', off', hA, -, hc0, hc1, u, hc2, hu⟩ := S.out.at (j := 1) (by decide)
  cases hA
  obtain ⟨Au, cu, rfl, -, -⟩ := hu.slice
  have hg0 : w7.cell? ⟨b, off + 3, none⟩ = some (.int .i64 sec2.1) := hc0
  have hg1 : w7.cell? ⟨b, off + 3 + 1, none⟩ = some (.int .i64 sec2.2.1) := hc1
  have hg2 : w7.cell? ⟨b, off + 3 + 2, none⟩ = some (.slice Au sec2.2.2.length cu) := hc2
  have SV : Hid (SecV w7 w7.heap.size (.agg #[.int .i64 sec2.1, .int .i64 sec2.2.1, .slice Au sec2.2.2.length cu]) sec2) := Lib.hid ⟨_, rfl, hu⟩
  clear hc0 hc1 hc2 hu
  go_wp2_with fail
  refine (hp.out _ sec2 0 1 w7 SV.out).mono ?_
  rintro e w8 ⟨rfl, b8⟩
  rw [show outV sec2 0 1 = 1 from by decide, show outE sec2 0 1 = 0 from by decide]
  have tS := (S.out.below secR_ b8).more secR_ b8.size
  have tB := B.out.trans (b8.mono B.out.size)
  clear S B SV b8 hg0 hg1 hg2
  have S := Lib.hid tS
  have B := Lib.hid tB
  clear tS tB
  obtain ⟨b', off', hA, -, hc0, hc1, u, hc2, hu⟩ := S.out.at (j := 1) (by decide)
  cases hA
  obtain ⟨Au, cu, rfl, -, -⟩ := hu.slice
  have hg0 : w8.cell? ⟨b, off + 3, none⟩ = some (.int .i64 sec2.1) := hc0
  have hg1 : w8.cell? ⟨b, off + 3 + 1, none⟩ = some (.int .i64 sec2.2.1) := hc1
  have hg2 : w8.cell? ⟨b, off + 3 + 2, none⟩ = some (.slice Au sec2.2.2.length cu) := hc2
  have SV : Hid (SecV w8 w8.heap.size (.agg #[.int .i64 sec2.1, .int .i64 sec2.2.1, .slice Au sec2.2.2.length cu]) sec2) := Lib.hid ⟨_, rfl, hu⟩
  clear hc0 hc1 hc2 hu
  go_wp2_with fail
  refine (hp.out _ sec2 2 2 w8 SV.out).mono ?_
  rintro e w9 ⟨rfl, b9⟩
  rw [show outV sec2 2 2 = 0 from by decide, show outE sec2 2 2 = 0 from by decide]
  have tS := (S.out.below secR_ b9).more secR_ b9.size
  have tB := B.out.trans (b9.mono B.out.size)
  clear S B SV b9 hg0 hg1 hg2
  have S := Lib.hid tS
  have B := Lib.hid tB
  clear tS tB
  obtain ⟨b', off', hA, -, hc0, hc1, u, hc2, hu⟩ := S.out.at (j := 1) (by decide)
  cases hA
  obtain ⟨Au, cu, rfl, -, -⟩ := hu.slice
  have hg0 : w9.cell? ⟨b, off + 3, none⟩ = some (.int .i64 sec2.1) := hc0
  have hg1 : w9.cell? ⟨b, off + 3 + 1, none⟩ = some (.int .i64 sec2.2.1) := hc1
  have hg2 : w9.cell? ⟨b, off + 3 + 2, none⟩ = some (.slice Au sec2.2.2.length cu) := hc2
  have SV : Hid (SecV w9 w9.heap.size (.agg #[.int .i64 sec2.1, .int .i64 sec2.2.1, .slice Au sec2.2.2.length cu]) sec2) := Lib.hid ⟨_, rfl, hu⟩
  clear hc0 hc1 hc2 hu
  go_wp2_with fail
  refine (hp.out _ sec2 2 1 w9 SV.out).mono ?_
  rintro e w10 ⟨rfl, b10⟩
  rw [show outV sec2 2 1 = 0 from by decide, show outE sec2 2 1 = 2 from by decide]
  have tS := (S.out.below secR_ b10).more secR_ b10.size
  have tB := B.out.trans (b10.mono B.out.size)
  clear S B SV b10 hg0 hg1 hg2
  have S := Lib.hid tS
  have B := Lib.hid tB
  clear tS tB
  obtain ⟨b', off', hA, -, hc0, hc1, u, hc2, hu⟩ := S.out.at (j := 2) (by decide)
  cases hA
  obtain ⟨Au, cu, rfl, -, -⟩ := hu.slice
  have hg0 : w10.cell? ⟨b, off + 6, none⟩ = some (.int .i64 sec3.1) := hc0
  have hg1 : w10.cell? ⟨b, off + 6 + 1, none⟩ = some (.int .i64 sec3.2.1) := hc1
  have hg2 : w10.cell? ⟨b, off + 6 + 2, none⟩ = some (.slice Au sec3.2.2.length cu) := hc2
  have SV : Hid (SecV w10 w10.heap.size (.agg #[.int .i64 sec3.1, .int .i64 sec3.2.1, .slice Au sec3.2.2.length cu]) sec3) := Lib.hid ⟨_, rfl, hu⟩
  clear hc0 hc1 hc2 hu
  go_wp2_with fail
  refine (hp.out _ sec3 1 0 w10 SV.out).mono ?_
  rintro e w11 ⟨rfl, b11⟩
  rw [show outV sec3 1 0 = 0 from by decide, show outE sec3 1 0 = 0 from by decide]
  have tS := (S.out.below secR_ b11).more secR_ b11.size
  have tB := B.out.trans (b11.mono B.out.size)
  clear S B SV b11 hg0 hg1 hg2
  have S := Lib.hid tS
  have B := Lib.hid tB
  clear tS tB
  obtain ⟨b', off', hA, -, hc0, hc1, u, hc2, hu⟩ := S.out.at (j := 2) (by decide)
  cases hA
  obtain ⟨Au, cu, rfl, -, -⟩ := hu.slice
  have hg0 : w11.cell? ⟨b, off + 6, none⟩ = some (.int .i64 sec3.1) := hc0
  have hg1 : w11.cell? ⟨b, off + 6 + 1, none⟩ = some (.int .i64 sec3.2.1) := hc1
  have hg2 : w11.cell? ⟨b, off + 6 + 2, none⟩ = some (.slice Au sec3.2.2.length cu) := hc2
  have SV : Hid (SecV w11 w11.heap.size (.agg #[.int .i64 sec3.1, .int .i64 sec3.2.1, .slice Au sec3.2.2.length cu]) sec3) := Lib.hid ⟨_, rfl, hu⟩
  clear hc0 hc1 hc2 hu
  go_wp2_with fail
  refine (hp.out _ sec3 1 1 w11 SV.out).mono ?_
  rintro e w12 ⟨rfl, b12⟩
  rw [show outV sec3 1 1 = 0 from by decide, show outE sec3 1 1 = 2 from by decide]
  have tS := (S.out.below secR_ b12).more secR_ b12.size
  have tB := B.out.trans (b12.mono B.out.size)
  clear S B SV b12 hg0 hg1 hg2
  have S := Lib.hid tS
  have B := Lib.hid tB
  clear tS tB
  go_wp2_with fail
  refine (alive7 hp w12).mono ?_
  rintro e w13 ⟨rfl, b13⟩
  have BE := Lib.hid (B.out.trans (b13.mono B.out.size))
  clear b13
  go_wp2_with fail
  go_ret
  exact ⟨rfl, BE.out⟩
end Go.Proofs.Ytnhglgpmmipjaaa
