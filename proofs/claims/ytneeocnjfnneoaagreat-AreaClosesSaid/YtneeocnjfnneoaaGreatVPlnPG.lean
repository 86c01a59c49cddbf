/-
 The program's package plan: signals, routes, Check.
 Conditions: none.
-/
import Derived.Test.YtneeocnjfnneoaaGreatVPlnPF
set_option linter.unusedVariables false
set_option linter.unusedSimpArgs false
set_option maxRecDepth 100000
namespace Go.Proofs.YtneeocnjfnneoaaGreat
open Go.RowKit

set_option maxHeartbeats 16000000 in
theorem signals_prog (v : Value) (p : Pl) (w : World) (h : PlanV w w.heap.size v p) :
  Calls Tryz.prog 49 #[v] w fun e w' => e = .returned (.bool (propB (SigsMay p))) ∧ Below w.heap.size w w' := by
 obtain ⟨A2, c2, A3, c3, A4, c4, A5, c5, n2, n3, n4, n5, rfl, hm2, hm3, hm4, hm5, HCP, HIN, HN⟩ := open_plan h
 have hq0 := heap_alloc_self w (.cells #[.int .i64 p.ver, .int .i64 p.par, .slice A2 n2 c2, .slice A3 n3 c3, .slice A4 n4 c4, .slice A5 n5 c5] 33)
 have hqb := below_new w (.cells #[.int .i64 p.ver, .int .i64 p.par, .slice A2 n2 c2, .slice A3 n3 c3, .slice A4 n4 c4, .slice A5 n5 c5] 33)
 go_enter Tryz.func49, Tryz.ntmps49
 go_upto_region 1 with fail
 generalize w.alloc (.cells #[.int .i64 p.ver, .int .i64 p.par, .slice A2 n2 c2, .slice A3 n3 c3, .slice A4 n4 c4, .slice A5 n5 c5] 33) = q at hq0 hqb ⊢
 have XP := Lib.hid hq0
 have BQ := Lib.hid hqb
 clear hq0 hqb
 obtain ⟨k0, k1, k2, k3, k4, k5⟩ := cell6_of XP.out
 by_cases h1 : 10 < n4
 ·have d1 : decide ((10 : Int) < n4) = true := decide_eq_true (by omega)
  have HF : Hid (propB (SigsMay p) = false) := Lib.hid (propB_false fun h => by have := sigs_iff.1 h; have := this.n; have := HN.out; omega)
  clear h1
  go_wp2_with fail
  go_ret
  exact ⟨by rw [HF.out]; rfl, BQ.out⟩
 have d1 : decide ((10 : Int) < n4) = false := decide_eq_false (by omega)
 have LIM : Hid (n4 ≤ 10) := Lib.hid (by omega)
 clear h1
 have HI := Lib.hid ((HIN.out.below BQ.out).more BQ.out.size)
 go_wp2_with fail
 refine (rising_sg _ p.sigs _ HI.out.sigs).mono ?_
 rintro e w1 ⟨rfl, b1⟩
 clear k0 k1 k2 k3 k4 k5
 replace BQ := Lib.hid (BQ.out.trans (b1.mono BQ.out.size))
 replace XP := Lib.hid ((b1.block _ (heap_lt XP.out)).trans XP.out)
 replace HI := Lib.hid ((HI.out.below b1).more b1.size)
 clear b1
 obtain ⟨k0, k1, k2, k3, k4, k5⟩ := cell6_of XP.out
 cases hrs : riseB kSg p.sigs with
 | false =>
  have HF : Hid (propB (SigsMay p) = false) := Lib.hid (propB_false fun h => by rw [riseB_true ((sigs_iff.1 h).rise)] at hrs; cases hrs)
  clear hrs
  go_wp2_with fail
  go_ret
  exact ⟨by rw [HF.out]; rfl, BQ.out⟩
 | true =>
 have RISE := Lib.hid (riseB_iff.1 hrs)
 clear hrs
 go_wp2_with fail
 clear k0 k1 k2 k3 k4 k5
 go_loopw [18] (fun s18 wr => ∃ i : Nat, i ≤ n4 ∧ s18 = .int .i64 i ∧ (∀ i' (hi : i' < i) (hl : i' < p.sigs.length), 0 ≤ p.sigs[i'].2.2 ∧ p.sigs[i'].2.2 < endsN p.secs p.sigs[i'].2.1 ∧ standsS (p.sigs.take i') p.sigs[i'].2.1 p.sigs[i'].2.2 = 0) ∧ wr.heap[w.heap.size]? = some (.cells #[.int .i64 p.ver, .int .i64 p.par, .slice A2 n2 c2, .slice A3 n3 c3, .slice A4 n4 c4, .slice A5 n5 c5] 33 (0, 0)) ∧ Below w.heap.size w wr) (fun s18 _ => n4 - (intOf s18).toNat)
 case atStart => exact ⟨0, by omega, by go_num, fun i' hi => absurd hi (by omega), XP.out, BQ.out⟩
 case round =>
  obtain ⟨i, hi, rfl, hall, hxp, hb⟩ := hrel
  have HALL := Lib.hid hall
  clear XP BQ HI
  have BW := Lib.hid hb
  have XP := Lib.hid hxp
  clear hall hb hxp
  by_cases hlt : i < n4
  ·have hlt' : (i : Int) < n4 := by omega
   have hic : (i : Int) ≤ c4 := by have := HCP.out; omega
   have hir : i < p.sigs.length := by rw [← HN.out.2.2.1]; exact hlt
   have HTK0 := Lib.hid (((HIN.out.sigs.below sigR BW.out).more sigR BW.out.size).take (Nat.le_of_lt hlt))
   have HI0 := Lib.hid ((HIN.out.below BW.out).more BW.out.size)
   obtain ⟨bk, off, rfl, hbk, hc0, hc1, hc2⟩ := ((HIN.out.sigs.below sigR BW.out).more sigR BW.out.size).at hir
   obtain ⟨a, b, c_, hx⟩ : ∃ a b c, p.sigs[i] = (a, b, c) := ⟨_, _, _, rfl⟩
   have HX := Lib.hid hx
   rw [hx] at hc0 hc1 hc2
   have hg0 : wr.cell? ⟨bk, off + i * 3, none⟩ = some (.int .i64 a) := hc0
   have hg1 : wr.cell? ⟨bk, off + i * 3 + 1, none⟩ = some (.int .i64 b) := hc1
   have hg2 : wr.cell? ⟨bk, off + i * 3 + 2, none⟩ = some (.int .i64 c_) := hc2
   clear hc0 hc1 hc2 hx hbk
   obtain ⟨q, hq⟩ : ∃ x, x = wr.alloc (.cells #[.int .i64 a, .int .i64 b, .int .i64 c_] 69) := ⟨_, rfl⟩
   have x1 := heap_alloc_self wr (.cells #[.int .i64 a, .int .i64 b, .int .i64 c_] 69)
   have b1 := below_new wr (.cells #[.int .i64 a, .int .i64 b, .int .i64 c_] 69)
   rw [← hq] at x1 b1
   go_upto_region 6 with fail
   rw [← hq]
   have X4 := Lib.hid x1
   generalize wr.heap.size = pX4 at X4 ⊢
   clear x1 hq hg0 hg1 hg2
   have HTK := Lib.hid ((HTK0.out.below sigR b1).more sigR b1.size)
   have HI := Lib.hid ((HI0.out.below b1).more b1.size)
   clear HTK0 HI0
   replace BW := Lib.hid (BW.out.trans (b1.mono BW.out.size))
   replace XP := Lib.hid ((b1.block _ (heap_lt XP.out)).trans XP.out)
   clear b1
   have FAIL : Hid (¬ (0 ≤ c_ ∧ c_ < endsN p.secs b ∧ standsS (p.sigs.take i) b c_ = 0) → propB (SigsMay p) = false) := Lib.hid (fun hn => propB_false fun h => hn (by
    have := (sigs_iff.1 h).each i hir
    rw [HX.out] at this
    exact this))
   have NXT : Hid ((0 ≤ c_ ∧ c_ < endsN p.secs b ∧ standsS (p.sigs.take i) b c_ = 0) → ∀ i' (hi : i' < i + 1) (hl : i' < p.sigs.length), 0 ≤ p.sigs[i'].2.2 ∧ p.sigs[i'].2.2 < endsN p.secs p.sigs[i'].2.1 ∧ standsS (p.sigs.take i') p.sigs[i'].2.1 p.sigs[i'].2.2 = 0) := Lib.hid (fun h0 i' hi' hl => by
    rcases Nat.lt_or_ge i' i with h | h
    ·exact HALL.out i' h hl
    ·obtain rfl : i' = i := by omega
     rw [HX.out]; exact h0)
   by_cases h0 : c_ < 0
   ·have d0 : decide (c_ < 0) = true := decide_eq_true h0
    have HF := Lib.hid (FAIL.out fun h => by omega)
    clear h0
    refine wp_region_held_drew (S := fun v => Below q.heap.size q v) (by kernel_rfl) (Below.refl q.heap.size q).drew (fun hHeld => ?_)
    refine tk 0 hHeld ?_;refine tkc 1 hHeld (fun w' hSw => cell3_of ((hSw.block _ (heap_lt X4.out)).trans X4.out)) ?_;refine tk 2 hHeld ?_;refine tk 3 hHeld ?_;refine tks 4 hHeld ?_;refine tks 5 hHeld ?_;refine tks 6 hHeld ?_;refine tks 7 hHeld ?_;refine tks 8 hHeld ?_;refine tks 9 hHeld ?_;refine tks 10 hHeld ?_;refine tks 11 hHeld ?_;refine tk 12 hHeld ?_;refine tk 13 hHeld ?_;refine tks 14 hHeld ?_;refine tks 15 hHeld ?_;refine tks 16 hHeld ?_;refine tks 17 hHeld ?_;refine tks 18 hHeld ?_;refine tks 19 hHeld ?_;refine tks 20 hHeld ?_;refine tks 21 hHeld ?_;refine tks 22 hHeld ?_;refine tks 23 hHeld ?_;refine tk 24 hHeld ?_
    refine wpAnyH_done (by kernel_rfl) ?_ _
    have b2 := (Below.refl q.heap.size q).drew
    replace BW := Lib.hid (BW.out.trans (b2.mono BW.out.size))
    replace XP := Lib.hid ((b2.block _ (heap_lt XP.out)).trans XP.out)
    clear b2
    go_wp2_with fail
    go_ret
    exact ⟨by rw [HF.out]; rfl, BW.out⟩
   have d0 : decide (c_ < 0) = false := decide_eq_false h0
   by_cases h1 : endsN p.secs b ≤ c_
   ·have d1 : decide (endsN p.secs b ≤ c_) = true := decide_eq_true h1
    have HF := Lib.hid (FAIL.out fun h => by omega)
    clear h0 h1
    refine wp_region_held_drew (S := fun v => Below q.heap.size q v) (by kernel_rfl) (Below.refl q.heap.size q).drew (fun hHeld => ?_)
    refine tk 0 hHeld ?_;refine tkc 1 hHeld (fun w' hSw => cell3_of ((hSw.block _ (heap_lt X4.out)).trans X4.out)) ?_;refine tk 2 hHeld ?_;refine tk 3 hHeld ?_;refine tk 4 hHeld ?_;refine tkc 5 hHeld (fun w' hSw => cell3_of ((hSw.block _ (heap_lt X4.out)).trans X4.out)) ?_;refine tk 6 hHeld ?_;refine tkc 7 hHeld (fun w' hSw => cell6_of ((hSw.block _ (heap_lt XP.out)).trans XP.out)) ?_;refine tk 8 hHeld ?_;refine tkc 9 hHeld (fun w' hSw => cell3_of ((hSw.block _ (heap_lt X4.out)).trans X4.out)) ?_
    refine tkr 10 (fun K hK => ?_)
    rw [if_pos (by rfl)]
    go_simp
    refine (ends_any _ p.secs b q.drew ((HI.out.secs.below secR_ (Below.refl q.heap.size q).drew))).mono ?_
    rintro e wA ⟨rfl, bA⟩
    have SA : Hid (Below q.heap.size q wA) := Lib.hid ((Below.refl q.heap.size q).drew.trans bA)
    clear bA
    try go_wp2_with fail
    refine hK.out _ _ ?_ fun hHeld => ?_;exact SA.out;clear hK K;try simp only [zn, Act.put]
    refine tk 11 hHeld ?_;refine tk 12 hHeld ?_;refine tk 13 hHeld ?_;refine tks 14 hHeld ?_;refine tks 15 hHeld ?_;refine tks 16 hHeld ?_;refine tks 17 hHeld ?_;refine tks 18 hHeld ?_;refine tks 19 hHeld ?_;refine tks 20 hHeld ?_;refine tks 21 hHeld ?_;refine tks 22 hHeld ?_;refine tks 23 hHeld ?_;refine tk 24 hHeld ?_
    refine wpAnyH_done (by kernel_rfl) ?_ _
    have b2 := SA.out
    replace BW := Lib.hid (BW.out.trans (b2.mono BW.out.size))
    replace XP := Lib.hid ((b2.block _ (heap_lt XP.out)).trans XP.out)
    clear b2
    go_wp2_with fail
    go_ret
    exact ⟨by rw [HF.out]; rfl, BW.out⟩
   have d1 : decide (endsN p.secs b ≤ c_) = false := decide_eq_false h1
   by_cases h2 : standsS (p.sigs.take i) b c_ = 0
   ·have d2 : (standsS (p.sigs.take i) b c_ != 0) = false := by simpa using h2
    have NX := Lib.hid (NXT.out ⟨by omega, by omega, h2⟩)
    clear h0 h1 h2
    refine wp_region_held_drew (S := fun v => Below q.heap.size q v) (by kernel_rfl) (Below.refl q.heap.size q).drew (fun hHeld => ?_)
    refine tk 0 hHeld ?_;refine tkc 1 hHeld (fun w' hSw => cell3_of ((hSw.block _ (heap_lt X4.out)).trans X4.out)) ?_;refine tk 2 hHeld ?_;refine tk 3 hHeld ?_;refine tk 4 hHeld ?_;refine tkc 5 hHeld (fun w' hSw => cell3_of ((hSw.block _ (heap_lt X4.out)).trans X4.out)) ?_;refine tk 6 hHeld ?_;refine tkc 7 hHeld (fun w' hSw => cell6_of ((hSw.block _ (heap_lt XP.out)).trans XP.out)) ?_;refine tk 8 hHeld ?_;refine tkc 9 hHeld (fun w' hSw => cell3_of ((hSw.block _ (heap_lt X4.out)).trans X4.out)) ?_
    refine tkr 10 (fun K hK => ?_)
    rw [if_pos (by rfl)]
    go_simp
    refine (ends_any _ p.secs b q.drew ((HI.out.secs.below secR_ (Below.refl q.heap.size q).drew))).mono ?_
    rintro e wA ⟨rfl, bA⟩
    have SA : Hid (Below q.heap.size q wA) := Lib.hid ((Below.refl q.heap.size q).drew.trans bA)
    clear bA
    try go_wp2_with fail
    refine hK.out _ _ ?_ fun hHeld => ?_;exact SA.out;clear hK K;try simp only [zn, Act.put]
    refine tk 11 hHeld ?_;refine tk 12 hHeld ?_;refine tk 13 hHeld ?_;refine tk 14 hHeld ?_;refine tkc 15 hHeld (fun w' hSw => cell6_of ((hSw.block _ (heap_lt XP.out)).trans XP.out)) ?_;refine tk 16 hHeld ?_;refine tk 17 hHeld ?_;refine tk 18 hHeld ?_;refine tkc 19 hHeld (fun w' hSw => cell3_of ((hSw.block _ (heap_lt X4.out)).trans X4.out)) ?_;refine tk 20 hHeld ?_;refine tkc 21 hHeld (fun w' hSw => cell3_of ((hSw.block _ (heap_lt X4.out)).trans X4.out)) ?_
    refine tkr 22 (fun K hK => ?_)
    rw [if_pos (by rfl)]
    go_simp
    refine (stands_any _ (p.sigs.take i) b c_ wA ((HTK.out.below sigR SA.out).more sigR SA.out.size)).mono ?_
    rintro e wB ⟨rfl, bB⟩
    have SB : Hid (Below q.heap.size q wB) := Lib.hid (SA.out.trans (bB.mono SA.out.size))
    clear bB
    try go_wp2_with fail
    refine hK.out _ _ ?_ fun hHeld => ?_;exact SB.out;clear hK K;try simp only [zn, Act.put]
    refine tk 23 hHeld ?_;refine tk 24 hHeld ?_
    refine wpAnyH_done (by kernel_rfl) ?_ _
    have b2 := SB.out
    replace BW := Lib.hid (BW.out.trans (b2.mono BW.out.size))
    replace XP := Lib.hid ((b2.block _ (heap_lt XP.out)).trans XP.out)
    clear b2
    go_wp2_with fail
    go_roundw
    case measure => simp [intOf]; omega
    case rel => exact ⟨i + 1, by omega, by go_num, NX.out, XP.out, BW.out⟩
   ·have d2 : (standsS (p.sigs.take i) b c_ != 0) = true := by simpa using h2
    have HF := Lib.hid (FAIL.out fun h => h2 h.2.2)
    clear h0 h1 h2
    refine wp_region_held_drew (S := fun v => Below q.heap.size q v) (by kernel_rfl) (Below.refl q.heap.size q).drew (fun hHeld => ?_)
    refine tk 0 hHeld ?_;refine tkc 1 hHeld (fun w' hSw => cell3_of ((hSw.block _ (heap_lt X4.out)).trans X4.out)) ?_;refine tk 2 hHeld ?_;refine tk 3 hHeld ?_;refine tk 4 hHeld ?_;refine tkc 5 hHeld (fun w' hSw => cell3_of ((hSw.block _ (heap_lt X4.out)).trans X4.out)) ?_;refine tk 6 hHeld ?_;refine tkc 7 hHeld (fun w' hSw => cell6_of ((hSw.block _ (heap_lt XP.out)).trans XP.out)) ?_;refine tk 8 hHeld ?_;refine tkc 9 hHeld (fun w' hSw => cell3_of ((hSw.block _ (heap_lt X4.out)).trans X4.out)) ?_
    refine tkr 10 (fun K hK => ?_)
    rw [if_pos (by rfl)]
    go_simp
    refine (ends_any _ p.secs b q.drew ((HI.out.secs.below secR_ (Below.refl q.heap.size q).drew))).mono ?_
    rintro e wA ⟨rfl, bA⟩
    have SA : Hid (Below q.heap.size q wA) := Lib.hid ((Below.refl q.heap.size q).drew.trans bA)
    clear bA
    try go_wp2_with fail
    refine hK.out _ _ ?_ fun hHeld => ?_;exact SA.out;clear hK K;try simp only [zn, Act.put]
    refine tk 11 hHeld ?_;refine tk 12 hHeld ?_;refine tk 13 hHeld ?_;refine tk 14 hHeld ?_;refine tkc 15 hHeld (fun w' hSw => cell6_of ((hSw.block _ (heap_lt XP.out)).trans XP.out)) ?_;refine tk 16 hHeld ?_;refine tk 17 hHeld ?_;refine tk 18 hHeld ?_;refine tkc 19 hHeld (fun w' hSw => cell3_of ((hSw.block _ (heap_lt X4.out)).trans X4.out)) ?_;refine tk 20 hHeld ?_;refine tkc 21 hHeld (fun w' hSw => cell3_of ((hSw.block _ (heap_lt X4.out)).trans X4.out)) ?_
    refine tkr 22 (fun K hK => ?_)
    rw [if_pos (by rfl)]
    go_simp
    refine (stands_any _ (p.sigs.take i) b c_ wA ((HTK.out.below sigR SA.out).more sigR SA.out.size)).mono ?_
    rintro e wB ⟨rfl, bB⟩
    have SB : Hid (Below q.heap.size q wB) := Lib.hid (SA.out.trans (bB.mono SA.out.size))
    clear bB
    try go_wp2_with fail
    refine hK.out _ _ ?_ fun hHeld => ?_;exact SB.out;clear hK K;try simp only [zn, Act.put]
    refine tk 23 hHeld ?_;refine tk 24 hHeld ?_
    refine wpAnyH_done (by kernel_rfl) ?_ _
    have b2 := SB.out
    replace BW := Lib.hid (BW.out.trans (b2.mono BW.out.size))
    replace XP := Lib.hid ((b2.block _ (heap_lt XP.out)).trans XP.out)
    clear b2
    go_wp2_with fail
    go_ret
    exact ⟨by rw [HF.out]; rfl, BW.out⟩
  ·obtain rfl : i = n4 := by omega
   have hlt' : ¬ (i : Int) < i := by omega
   have HF : Hid (propB (SigsMay p) = true) := Lib.hid (propB_true (sigs_iff.2 ⟨by rw [← HN.out.2.2.1]; exact LIM.out, RISE.out, fun a ha => HALL.out a (by rw [HN.out.2.2.1]; exact ha) ha⟩))
   go_wp2_with fail
   go_ret
   exact ⟨by rw [HF.out]; rfl, BW.out⟩
set_option maxHeartbeats 16000000 in
theorem routes_prog (v : Value) (p : Pl) (w : World) (h : PlanV w w.heap.size v p) (ht : TMay p.secs) (hr : RiseK kPt p.pts) :
  Calls Tryz.prog 50 #[v] w fun e w' => e = .returned (.bool (propB (RoutesP p))) ∧ Below w.heap.size w w' := by
 have HT := Lib.hid ht
 have HRI := Lib.hid hr
 clear ht hr
 obtain ⟨A2, c2, A3, c3, A4, c4, A5, c5, n2, n3, n4, n5, rfl, hm2, hm3, hm4, hm5, HCP, HIN, HN⟩ := open_plan h
 have hq0 := heap_alloc_self w (.cells #[.int .i64 p.ver, .int .i64 p.par, .slice A2 n2 c2, .slice A3 n3 c3, .slice A4 n4 c4, .slice A5 n5 c5] 33)
 have hqb := below_new w (.cells #[.int .i64 p.ver, .int .i64 p.par, .slice A2 n2 c2, .slice A3 n3 c3, .slice A4 n4 c4, .slice A5 n5 c5] 33)
 go_enter Tryz.func50, Tryz.ntmps50
 go_upto_region 1 with fail
 generalize w.alloc (.cells #[.int .i64 p.ver, .int .i64 p.par, .slice A2 n2 c2, .slice A3 n3 c3, .slice A4 n4 c4, .slice A5 n5 c5] 33) = q at hq0 hqb ⊢
 have XP := Lib.hid hq0
 have BQ := Lib.hid hqb
 clear hq0 hqb
 obtain ⟨k0, k1, k2, k3, k4, k5⟩ := cell6_of XP.out
 by_cases h1 : 16 < n5
 ·have d1 : decide ((16 : Int) < n5) = true := decide_eq_true (by omega)
  have HF : Hid (propB (RoutesP p) = false) := Lib.hid (propB_false fun h => by have := h; have := this.n; have := HN.out; omega)
  clear h1
  go_wp2_with fail
  go_ret
  exact ⟨by rw [HF.out]; rfl, BQ.out⟩
 have d1 : decide ((16 : Int) < n5) = false := decide_eq_false (by omega)
 have LIM : Hid (n5 ≤ 16) := Lib.hid (by omega)
 clear h1
 have HI := Lib.hid ((HIN.out.below BQ.out).more BQ.out.size)
 go_wp2_with fail
 refine (rising_rt _ p.routes _ HI.out.routes).mono ?_
 rintro e w1 ⟨rfl, b1⟩
 clear k0 k1 k2 k3 k4 k5
 replace BQ := Lib.hid (BQ.out.trans (b1.mono BQ.out.size))
 replace XP := Lib.hid ((b1.block _ (heap_lt XP.out)).trans XP.out)
 replace HI := Lib.hid ((HI.out.below b1).more b1.size)
 clear b1
 obtain ⟨k0, k1, k2, k3, k4, k5⟩ := cell6_of XP.out
 cases hrs : riseB kRt p.routes with
 | false =>
  have HF : Hid (propB (RoutesP p) = false) := Lib.hid (propB_false fun h => by rw [riseB_true (h.rise)] at hrs; cases hrs)
  clear hrs
  go_wp2_with fail
  go_ret
  exact ⟨by rw [HF.out]; rfl, BQ.out⟩
 | true =>
 have RISE := Lib.hid (riseB_iff.1 hrs)
 clear hrs
 go_wp2_with fail
 clear k0 k1 k2 k3 k4 k5
 go_loopw [18] (fun s18 wr => ∃ i : Nat, i ≤ n5 ∧ s18 = .int .i64 i ∧ (∀ i' (hi : i' < i) (hl : i' < p.routes.length), RouteMay p p.routes[i']) ∧ wr.heap[w.heap.size]? = some (.cells #[.int .i64 p.ver, .int .i64 p.par, .slice A2 n2 c2, .slice A3 n3 c3, .slice A4 n4 c4, .slice A5 n5 c5] 33 (0, 0)) ∧ Below w.heap.size w wr) (fun s18 _ => n5 - (intOf s18).toNat)
 case atStart => exact ⟨0, by omega, by go_num, fun i' hi => absurd hi (by omega), XP.out, BQ.out⟩
 case round =>
  obtain ⟨i, hi, rfl, hall, hxp, hb⟩ := hrel
  have HALL := Lib.hid hall
  clear XP BQ HI
  have BW := Lib.hid hb
  have XP := Lib.hid hxp
  clear hall hb hxp
  by_cases hlt : i < n5
  ·have hlt' : (i : Int) < n5 := by omega
   have hir : i < p.routes.length := by rw [← HN.out.2.2.2]; exact hlt
   have HI0 := Lib.hid ((HIN.out.below BW.out).more BW.out.size)
   obtain ⟨bk, off, rfl, hbk, hc0, hc1, hc2, hc6, u3, u4, u5, hc3, hc4, hc5, hr⟩ := ((HIN.out.routes.below routeR BW.out).more routeR BW.out.size).at hir
   obtain ⟨B3, d3, rfl, -, -⟩ := hr.path.slice
   obtain ⟨B4, d4, rfl, -, -⟩ := hr.over.slice
   obtain ⟨B5, d5, rfl, -, -⟩ := hr.flanks.slice
   obtain ⟨a, en, ex, lp, lo, lf, tm, hx⟩ : ∃ a en ex lp lo lf tm, p.routes[i] = (⟨a, en, ex, lp, lo, lf, tm⟩ : Rt) := ⟨_, _, _, _, _, _, _, rfl⟩
   have HX := Lib.hid hx
   rw [hx] at hc0 hc1 hc2 hc3 hc4 hc5 hc6 hr
   dsimp only at hc0 hc1 hc2 hc3 hc4 hc5 hc6 hr
   obtain ⟨m3, e3⟩ : ∃ m, m = lp.length := ⟨_, rfl⟩
   obtain ⟨m4, e4⟩ : ∃ m, m = lo.length := ⟨_, rfl⟩
   obtain ⟨m5, e5⟩ : ∃ m, m = lf.length := ⟨_, rfl⟩
   rw [← e3] at hc3 hr
   rw [← e4] at hc4 hr
   rw [← e5] at hc5 hr
   have HR := Lib.hid hr
   have HM : Hid (m3 = lp.length ∧ m4 = lo.length ∧ m5 = lf.length) := Lib.hid ⟨e3, e4, e5⟩
   have hg0 : wr.cell? ⟨bk, off + i * 7, none⟩ = some (.int .i64 a) := hc0
   have hg1 : wr.cell? ⟨bk, off + i * 7 + 1, none⟩ = some (.int .i64 en) := hc1
   have hg2 : wr.cell? ⟨bk, off + i * 7 + 2, none⟩ = some (.int .i64 ex) := hc2
   have hg3 : wr.cell? ⟨bk, off + i * 7 + 3, none⟩ = some (.slice B3 m3 d3) := hc3
   have hg4 : wr.cell? ⟨bk, off + i * 7 + 4, none⟩ = some (.slice B4 m4 d4) := hc4
   have hg5 : wr.cell? ⟨bk, off + i * 7 + 5, none⟩ = some (.slice B5 m5 d5) := hc5
   have hg6 : wr.cell? ⟨bk, off + i * 7 + 6, none⟩ = some (.int .i64 tm) := hc6
   clear hc0 hc1 hc2 hc3 hc4 hc5 hc6 hx hbk hr e3 e4 e5
   obtain ⟨q, hq⟩ : ∃ x, x = wr.alloc (.cells #[.int .i64 a, .int .i64 en, .int .i64 ex, .slice B3 m3 d3, .slice B4 m4 d4, .slice B5 m5 d5, .int .i64 tm] 54) := ⟨_, rfl⟩
   have x1 := heap_alloc_self wr (.cells #[.int .i64 a, .int .i64 en, .int .i64 ex, .slice B3 m3 d3, .slice B4 m4 d4, .slice B5 m5 d5, .int .i64 tm] 54)
   have b1 := below_new wr (.cells #[.int .i64 a, .int .i64 en, .int .i64 ex, .slice B3 m3 d3, .slice B4 m4 d4, .slice B5 m5 d5, .int .i64 tm] 54)
   rw [← hq] at x1 b1
   go_upto_region 6 with fail
   rw [← hq]
   have X4 := Lib.hid x1
   generalize wr.heap.size = pX4 at X4 ⊢
   clear x1 hq hg0 hg1 hg2 hg3 hg4 hg5 hg6
   have HI := Lib.hid ((HI0.out.below b1).more b1.size)
   have HRV := Lib.hid ((HR.out.below b1).more b1.size)
   clear HI0 HR
   replace BW := Lib.hid (BW.out.trans (b1.mono BW.out.size))
   replace XP := Lib.hid ((b1.block _ (heap_lt XP.out)).trans XP.out)
   clear b1
   obtain ⟨m0, m1, m2, m3_, m4_, m5_, m6⟩ := cell7_of X4.out
   obtain ⟨k0, k1, k2, k3, k4, k5⟩ := cell6_of XP.out
   have FAIL : Hid (¬ RouteMay p p.routes[i] → propB (RoutesP p) = false) := Lib.hid (fun hn => propB_false fun h => hn (h.each i hir))
   have NXT : Hid (RouteMay p p.routes[i] → ∀ i' (hi : i' < i + 1) (hl : i' < p.routes.length), RouteMay p p.routes[i']) := Lib.hid (fun h0 i' hi' hl => by
    rcases Nat.lt_or_ge i' i with h | h
    ·exact HALL.out i' h hl
    ·obtain rfl : i' = i := by omega
     exact h0)
   obtain ⟨rr, hrr⟩ : ∃ x, x = p.routes[i] := ⟨_, rfl⟩
   rw [← hrr] at FAIL NXT
   have HRR : Hid (rr = ⟨a, en, ex, lp, lo, lf, tm⟩) := Lib.hid (hrr.trans HX.out)
   clear hrr
   by_cases h0 : tm < 1
   ·have d0 : decide (tm < 1) = true := decide_eq_true h0
    have HF := Lib.hid (FAIL.out fun h => by have := h.timer.1; rw [HRR.out] at this; exact absurd this (by show ¬ 1 ≤ tm; omega))
    clear h0
    go_wp2_with fail
    go_ret
    exact ⟨by rw [HF.out]; rfl, BW.out⟩
   have d0 : decide (tm < 1) = false := decide_eq_false h0
   by_cases h1 : 9 < tm
   ·have d1 : decide (9 < tm) = true := decide_eq_true h1
    have HF := Lib.hid (FAIL.out fun h => by have := h.timer.2; rw [HRR.out] at this; exact absurd this (by show ¬ tm ≤ 9; omega))
    clear h0 h1
    go_wp2_with fail
    go_ret
    exact ⟨by rw [HF.out]; rfl, BW.out⟩
   have d1 : decide (9 < tm) = false := decide_eq_false h1
   have TMB : Hid (1 ≤ tm ∧ tm ≤ 9) := Lib.hid (by omega)
   clear h0 h1
   go_wp2_with fail
   refine (leads_prog _ _ p ⟨a, en, ex, lp, lo, lf, tm⟩ q ⟨_, _, _, _, rfl, HI.out⟩ ⟨_, _, _, rfl, HRV.out⟩ HT.out).mono ?_
   rintro e w2 ⟨rfl, b1⟩
   clear m0 m1 m2 m3_ m4_ m5_ m6 k0 k1 k2 k3 k4 k5
   replace BW := Lib.hid (BW.out.trans (b1.mono BW.out.size))
   replace XP := Lib.hid ((b1.block _ (heap_lt XP.out)).trans XP.out)
   replace X4 := Lib.hid ((b1.block _ (heap_lt X4.out)).trans X4.out)
   replace HI := Lib.hid ((HI.out.below b1).more b1.size)
   replace HRV := Lib.hid ((HRV.out.below b1).more b1.size)
   clear b1
   rw [← HRR.out]
   cases hld : propB (LeadsP p rr) with
   | false =>
    have HF := Lib.hid (FAIL.out fun h => by rw [propB_true (route_parts.1 h).2.1] at hld; cases hld)
    clear hld
    go_wp2_with fail
    go_ret
    exact ⟨by rw [HF.out]; rfl, BW.out⟩
   | true =>
   have LD := Lib.hid (propB_iff.1 hld)
   clear hld
   obtain ⟨m0, m1, m2, m3_, m4_, m5_, m6⟩ := cell7_of X4.out
   obtain ⟨k0, k1, k2, k3, k4, k5⟩ := cell6_of XP.out
   go_wp2_with fail
   refine (flanks_any _ _ p lf w2 ⟨_, _, _, _, rfl, HI.out⟩ HRV.out.flanks HRI.out).mono ?_
   rintro e w3 ⟨rfl, b1⟩
   clear m0 m1 m2 m3_ m4_ m5_ m6 k0 k1 k2 k3 k4 k5
   replace BW := Lib.hid (BW.out.trans (b1.mono BW.out.size))
   replace XP := Lib.hid ((b1.block _ (heap_lt XP.out)).trans XP.out)
   clear b1
   cases hfl : propB (FlanksP p lf) with
   | false =>
    have HF := Lib.hid (FAIL.out fun h => by have h2 := (route_parts.1 h).2.2; rw [HRR.out] at h2; rw [propB_true h2] at hfl; cases hfl)
    clear hfl
    go_wp2_with fail
    go_ret
    exact ⟨by rw [HF.out]; rfl, BW.out⟩
   | true =>
    have NX := Lib.hid (NXT.out (route_parts.2 ⟨by rw [HRR.out]; exact TMB.out, LD.out, by rw [HRR.out]; exact propB_iff.1 hfl⟩))
    clear hfl
    go_wp2_with fail
    go_roundw
    case measure => simp [intOf]; omega
    case rel => exact ⟨i + 1, by omega, by go_num, NX.out, XP.out, BW.out⟩
  ·obtain rfl : i = n5 := by omega
   have hlt' : ¬ (i : Int) < i := by omega
   have HF : Hid (propB (RoutesP p) = true) := Lib.hid (propB_true ⟨by rw [← HN.out.2.2.2]; exact LIM.out, RISE.out, fun a ha => HALL.out a (by rw [HN.out.2.2.2]; exact ha) ha⟩)
   go_wp2_with fail
   go_ret
   exact ⟨by rw [HF.out]; rfl, BW.out⟩
set_option maxHeartbeats 16000000 in
theorem check_prog (v : Value) (p : Pl) (w : World) (h : PlanV w w.heap.size v p) :
  Calls Tryz.prog 21 #[v] w fun e w' => e = .returned (.int .i64 (chk8 p)) ∧ Below w.heap.size w w' := by
 obtain ⟨A2, c2, A3, c3, A4, c4, A5, c5, n2, n3, n4, n5, rfl, hm2, hm3, hm4, hm5, HCP, HIN, HN⟩ := open_plan h
 have hq0 := heap_alloc_self w (.cells #[.int .i64 p.ver, .int .i64 p.par, .slice A2 n2 c2, .slice A3 n3 c3, .slice A4 n4 c4, .slice A5 n5 c5] 33)
 have hqb := below_new w (.cells #[.int .i64 p.ver, .int .i64 p.par, .slice A2 n2 c2, .slice A3 n3 c3, .slice A4 n4 c4, .slice A5 n5 c5] 33)
 go_enter Tryz.func21, Tryz.ntmps21
 go_upto_region 1 with fail
 generalize w.alloc (.cells #[.int .i64 p.ver, .int .i64 p.par, .slice A2 n2 c2, .slice A3 n3 c3, .slice A4 n4 c4, .slice A5 n5 c5] 33) = q at hq0 hqb ⊢
 have XP := Lib.hid hq0
 have BQ := Lib.hid hqb
 clear hq0 hqb
 have HI := Lib.hid ((HIN.out.below BQ.out).more BQ.out.size)
 have NO : Hid (¬ PlanMay p → chk8 p = 8) := Lib.hid (fun h => by rw [chk8, planMay_false h]; rfl)
 have YES : Hid (PlanMay p → chk8 p = 0) := Lib.hid (fun h => by rw [chk8, planMay_true h]; rfl)
 obtain ⟨k0, k1, k2, k3, k4, k5⟩ := cell6_of XP.out
 go_wp2_with fail
 refine (versions_any _ p _ ⟨_, _, _, _, rfl, HI.out⟩).mono ?_
 rintro e w1 ⟨rfl, b1⟩
 clear k0 k1 k2 k3 k4 k5
 replace BQ := Lib.hid (BQ.out.trans (b1.mono BQ.out.size))
 replace XP := Lib.hid ((b1.block _ (heap_lt XP.out)).trans XP.out)
 replace HI := Lib.hid ((HI.out.below b1).more b1.size)
 clear b1
 cases h1 : propB (VersP p) with
 | false =>
  have HF := Lib.hid (NO.out fun h => by rw [propB_true (plan_parts.1 h).1] at h1; cases h1)
  clear h1
  go_wp2_with fail
  go_ret
  exact ⟨by rw [HF.out]; rfl, BQ.out⟩
 | true =>
 have S1 := Lib.hid (propB_iff.1 h1)
 clear h1
 obtain ⟨k0, k1, k2, k3, k4, k5⟩ := cell6_of XP.out
 have CK1 : Hid (mayT p.secs = false → chkT p.secs = 8) := Lib.hid (fun h => by rw [chkT, h]; rfl)
 have CK0 : Hid (mayT p.secs = true → chkT p.secs = 0) := Lib.hid (fun h => by rw [chkT, h]; rfl)
 go_wp2_with fail
 refine (pcheck_any _ p.secs _ HI.out.secs).mono ?_
 rintro e w2 ⟨rfl, b1⟩
 clear k0 k1 k2 k3 k4 k5
 replace BQ := Lib.hid (BQ.out.trans (b1.mono BQ.out.size))
 replace XP := Lib.hid ((b1.block _ (heap_lt XP.out)).trans XP.out)
 replace HI := Lib.hid ((HI.out.below b1).more b1.size)
 clear b1
 generalize chkT p.secs = ck at CK0 CK1 ⊢
 cases hm : mayT p.secs with
 | false =>
  obtain rfl := CK1.out hm
  have HF := Lib.hid (NO.out fun h => by rw [mayT_true (plan_parts.1 h).2.1] at hm; cases hm)
  clear hm
  go_wp2_with fail
  go_ret
  exact ⟨by rw [HF.out]; rfl, BQ.out⟩
 | true =>
 obtain rfl := CK0.out hm
 have S2 := Lib.hid (mayT_iff.1 hm)
 clear hm
 obtain ⟨k0, k1, k2, k3, k4, k5⟩ := cell6_of XP.out
 go_wp2_with fail
 refine (points_prog _ p _ ⟨_, _, _, _, rfl, HI.out⟩ S2.out).mono ?_
 rintro e w3 ⟨rfl, b1⟩
 clear k0 k1 k2 k3 k4 k5
 replace BQ := Lib.hid (BQ.out.trans (b1.mono BQ.out.size))
 replace XP := Lib.hid ((b1.block _ (heap_lt XP.out)).trans XP.out)
 replace HI := Lib.hid ((HI.out.below b1).more b1.size)
 clear b1
 cases h3 : propB (PtsMay p) with
 | false =>
  have HF := Lib.hid (NO.out fun h => by rw [propB_true (plan_parts.1 h).2.2.1] at h3; cases h3)
  clear h3
  go_wp2_with fail
  go_ret
  exact ⟨by rw [HF.out]; rfl, BQ.out⟩
 | true =>
 have S3 := Lib.hid (propB_iff.1 h3)
 clear h3
 obtain ⟨k0, k1, k2, k3, k4, k5⟩ := cell6_of XP.out
 go_wp2_with fail
 refine (signals_prog _ p _ ⟨_, _, _, _, rfl, HI.out⟩).mono ?_
 rintro e w4 ⟨rfl, b1⟩
 clear k0 k1 k2 k3 k4 k5
 replace BQ := Lib.hid (BQ.out.trans (b1.mono BQ.out.size))
 replace XP := Lib.hid ((b1.block _ (heap_lt XP.out)).trans XP.out)
 replace HI := Lib.hid ((HI.out.below b1).more b1.size)
 clear b1
 cases h4 : propB (SigsMay p) with
 | false =>
  have HF := Lib.hid (NO.out fun h => by rw [propB_true (plan_parts.1 h).2.2.2.1] at h4; cases h4)
  clear h4
  go_wp2_with fail
  go_ret
  exact ⟨by rw [HF.out]; rfl, BQ.out⟩
 | true =>
 have S4 := Lib.hid (propB_iff.1 h4)
 clear h4
 obtain ⟨k0, k1, k2, k3, k4, k5⟩ := cell6_of XP.out
 go_wp2_with fail
 refine (routes_prog _ p _ ⟨_, _, _, _, rfl, HI.out⟩ S2.out ((pts_iff S2.out).1 S3.out).rise).mono ?_
 rintro e w5 ⟨rfl, b1⟩
 clear k0 k1 k2 k3 k4 k5
 replace BQ := Lib.hid (BQ.out.trans (b1.mono BQ.out.size))
 replace XP := Lib.hid ((b1.block _ (heap_lt XP.out)).trans XP.out)
 replace HI := Lib.hid ((HI.out.below b1).more b1.size)
 clear b1
 cases h5 : propB (RoutesP p) with
 | false =>
  have HF := Lib.hid (NO.out fun h => by rw [propB_true (plan_parts.1 h).2.2.2.2] at h5; cases h5)
  clear h5
  go_wp2_with fail
  go_ret
  exact ⟨by rw [HF.out]; rfl, BQ.out⟩
 | true =>
 have S5 := Lib.hid (propB_iff.1 h5)
 clear h5
 have HF := Lib.hid (YES.out (plan_parts.2 ⟨S1.out, S2.out, S3.out, S4.out, S5.out⟩))
 go_wp2_with fail
 go_ret
 exact ⟨by rw [HF.out]; rfl, BQ.out⟩
end Go.Proofs.YtneeocnjfnneoaaGreat
