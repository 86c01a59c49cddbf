/-
  The statement TrackThrough's text returns true: how a point has to lie for a way, and where one comes out, are the document's.
  Conditions: none.
-/
import Derived.Test.YtnhglgpmmipjaaaTrkProg
set_option linter.unusedVariables false
set_option linter.unusedSimpArgs false
set_option maxRecDepth 100000
namespace Go.Proofs.Ytnhglgpmmipjaaa
open Go.RowKit

set_option maxHeartbeats 4000000 in
theorem walk_through (hp : TrkSaid) (v : Value) (s : Sec) (a b lie : Int) (w : World) (h : SecV w w.heap.size v s) :
    Calls Try.prog 5 #[v, .int .i64 a, .int .i64 b, .int .i64 lie] w fun e w' => e = .returned (.bool true) ∧ Below w.heap.size w w' := by
  have H := Lib.hid h
  obtain ⟨u, rfl, hu⟩ := h
  obtain ⟨A, c, rfl, -, hum⟩ := hu.slice
  clear hu
  obtain ⟨id, pt, l⟩ := s
  dsimp only at H ⊢
  obtain ⟨n, hn⟩ : ∃ n, n = l.length := ⟨_, rfl⟩
  have HN := Lib.hid hn
  rw [← hn] at H ⊢
  clear hn hum
  have hq0 := heap_alloc_self w (.cells #[.int .i64 id, .int .i64 pt, .slice A n c] 33)
  have hqb := below_new w (.cells #[.int .i64 id, .int .i64 pt, .slice A n c] 33)
  go_enter Try.func5, Try.ntmps5
  go_upto_region 1 with fail
  generalize w.alloc (.cells #[.int .i64 id, .int .i64 pt, .slice A n c] 33) = q at hq0 hqb ⊢
  have X0 := Lib.hid hq0
  have BW := Lib.hid hqb
  clear hq0 hqb
  obtain ⟨k0, k1, k2⟩ := cell3_of X0.out
  by_cases hl : 1000 < n
  · have hl' : (1000 : Int) < n := by omega
    go_wp2_with fail
    go_ret
    exact ⟨rfl, BW.out⟩
  have hl' : ¬ (1000 : Int) < n := by omega
  have HL : Hid (l.length ≤ 1000) := Lib.hid (by rw [← HN.out]; omega)
  clear hl
  go_wp2_with fail
  refine (rtwin7_any _ (id, pt, l) q ((H.out.below BW.out).more BW.out.size) HL.out).mono ?_
  rintro e w1 ⟨u, rfl, hu, b1⟩
  obtain ⟨A1, c1, rfl⟩ := hu.slice
  dsimp only at hu ⊢
  rw [← HN.out] at hu ⊢
  have hy0 := heap_alloc_self w1 (.cells #[.int .i64 id, .int .i64 pt, .slice A1 n c1] 33)
  have hyb := below_new w1 (.cells #[.int .i64 id, .int .i64 pt, .slice A1 n c1] 33)
  obtain ⟨q1, hq1⟩ : ∃ q1, q1 = w1.alloc (.cells #[.int .i64 id, .int .i64 pt, .slice A1 n c1] 33) := ⟨_, rfl⟩
  rw [← hq1] at hy0 hyb
  have hOV : SecV q1 q1.heap.size (.agg #[.int .i64 id, .int .i64 pt, .slice A1 n c1]) (id, pt, l) := (JoinsOwn.sec (hu.below joinR hyb))
  have OV := Lib.hid hOV
  have bq := b1.trans (hyb.mono b1.size)
  have BQ := Lib.hid (BW.out.trans (bq.mono BW.out.size))
  have X01 := Lib.hid ((bq.block _ (heap_lt X0.out)).trans X0.out)
  have X9 := Lib.hid hy0
  clear hOV hu b1 hy0 hyb bq k0 k1 k2
  go_upto_region 4 with fail
  rw [← hq1]
  clear hq1
  generalize w1.heap.size = p9 at X9 ⊢
  obtain ⟨k0, k1, k2⟩ := cell3_of X9.out
  go_wp2_with fail
  refine (hp.through _ (id, pt, l) a b q1 OV.out).mono ?_
  rintro e w2 ⟨rfl, b2⟩
  have B2 := Lib.hid (BQ.out.trans (b2.mono BQ.out.size))
  have X2 := Lib.hid ((b2.block _ (heap_lt X01.out)).trans X01.out)
  have Y2 := Lib.hid ((b2.block _ (heap_lt X9.out)).trans X9.out)
  have V2 := Lib.hid ((OV.out.below b2).more b2.size)
  clear b2 k0 k1 k2
  obtain ⟨k0, k1, k2⟩ := cell3_of X2.out
  go_wp2_with fail
  refine (rthrough_any _ (id, pt, l) a b w2 ((H.out.below B2.out).more B2.out.size)).mono ?_
  rintro e w3 ⟨rfl, b3⟩
  have B3 := Lib.hid (B2.out.trans (b3.mono B2.out.size))
  have X3 := Lib.hid ((b3.block _ (heap_lt X2.out)).trans X2.out)
  have Y3 := Lib.hid ((b3.block _ (heap_lt Y2.out)).trans Y2.out)
  have V3 := Lib.hid ((V2.out.below b3).more b3.size)
  clear b3 k0 k1 k2
  obtain ⟨k0, k1, k2⟩ := cell3_of Y3.out
  go_wp2_with fail
  refine (hp.out _ (id, pt, l) a lie w3 V3.out).mono ?_
  rintro e w4 ⟨rfl, b4⟩
  have B4 := Lib.hid (B3.out.trans (b4.mono B3.out.size))
  have X4 := Lib.hid ((b4.block _ (heap_lt X3.out)).trans X3.out)
  have Y4 := Lib.hid ((b4.block _ (heap_lt Y3.out)).trans Y3.out)
  have V4 := Lib.hid ((V3.out.below b4).more b4.size)
  clear b4 k0 k1 k2
  obtain ⟨k0, k1, k2⟩ := cell3_of X4.out
  go_wp2_with fail
  refine (rout_any _ (id, pt, l) a lie w4 ((H.out.below B4.out).more B4.out.size)).mono ?_
  rintro e w5 ⟨rfl, b5⟩
  have B5 := Lib.hid (B4.out.trans (b5.mono B4.out.size))
  have X5 := Lib.hid ((b5.block _ (heap_lt X4.out)).trans X4.out)
  have Y5 := Lib.hid ((b5.block _ (heap_lt Y4.out)).trans Y4.out)
  have V5 := Lib.hid ((V4.out.below b5).more b5.size)
  clear b5 k0 k1 k2
  obtain ⟨k0, k1, k2⟩ := cell3_of X5.out
  obtain ⟨m0, m1, m2⟩ := cell3_of Y5.out
  go_wp2_with fail
  refine (rsamesec_any _ _ (id, pt, l) w5 V5.out ((H.out.below B5.out).more B5.out.size)).mono ?_
  rintro e w6 ⟨rfl, b6⟩
  have B6 := Lib.hid (B5.out.trans (b6.mono B5.out.size))
  clear b6
  go_wp2_with fail
  go_ret
  exact ⟨rfl, B6.out⟩
end Go.Proofs.Ytnhglgpmmipjaaa
