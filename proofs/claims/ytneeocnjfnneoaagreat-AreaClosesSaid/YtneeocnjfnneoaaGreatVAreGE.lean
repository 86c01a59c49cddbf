/-
 The program's package area: what is in an area, and areas compared.
 Conditions: none.
-/
import Derived.Test.YtneeocnjfnneoaaGreatVGAreM
import Derived.Test.YtneeocnjfnneoaaGreatVGAreRefA
import Derived.Test.YtneeocnjfnneoaaGreatVPlnPC
import Derived.Test.YtneeocnjfnneoaaGreatVPlnPL
set_option linter.unusedVariables false
set_option linter.unusedSimpArgs false
set_option maxRecDepth 100000
namespace Go.Proofs.YtneeocnjfnneoaaGreat
open Go.RowKit

theorem inB_dec (l : List Int) (x : Int) : inB l x = decide (x ∈ l) := by
 rw [Bool.eq_iff_iff, inB_true, decide_eq_true_iff]
 constructor
 ·rintro ⟨j, hj, rfl⟩; exact List.getElem_mem hj
 ·intro h; obtain ⟨j, hj, e⟩ := List.getElem_of_mem h; exact ⟨j, hj, e⟩
theorem in_slA {W : World} {B : Nat} {v : Value} {l : List Int} (h : IntsIn W B v l) : ∃ A n c, v = .slice A n c := by
 obtain ⟨A, c, e, -, -⟩ := h.slice
 exact ⟨A, _, c, e⟩
set_option maxHeartbeats 8000000 in
theorem phas14_any (v : Value) (x : Ar) (kind id : Int) (w : World) (h : AreaV w w.heap.size v x) (hk : 0 ≤ kind) (hk2 : kind < 256) :
  Calls Tryz.prog 14 #[v, .int .u8 kind, .int .i64 id] w fun e w' => e = .returned (.bool (hasA x kind id)) ∧ Below w.heap.size w w' := by
 obtain ⟨u0, u1, u2, u3, rfl, hx⟩ := h
 obtain ⟨A0, n0, c0, rfl⟩ := in_slA hx.secs
 obtain ⟨A1, n1, c1, rfl⟩ := in_slA hx.pts
 obtain ⟨A2, n2, c2, rfl⟩ := in_slA hx.sigs
 obtain ⟨A3, n3, c3, rfl⟩ := in_slA hx.routes
 have h0 := heap_alloc_self w (.cells #[.slice A0 n0 c0, .slice A1 n1 c1, .slice A2 n2 c2, .slice A3 n3 c3] 24)
 have hb := below_new w (.cells #[.slice A0 n0 c0, .slice A1 n1 c1, .slice A2 n2 c2, .slice A3 n3 c3] 24)
 go_enter Tryz.func14, Tryz.ntmps14
 go_upto_region 1 with fail
 generalize w.alloc (.cells #[.slice A0 n0 c0, .slice A1 n1 c1, .slice A2 n2 c2, .slice A3 n3 c3] 24) = q at h0 hb ⊢
 have X0 := Lib.hid h0
 have BQ := Lib.hid hb
 have HX := Lib.hid ((hx.below hb).more hb.size)
 clear h0 hb hx
 obtain ⟨k0, k1, k2, k3⟩ := cell4A X0.out
 by_cases h1 : kind = 1
 ·subst h1
  clear hk hk2
  go_wp2_with fail
  refine (contains_any _ x.secs id q HX.out.secs).mono ?_
  rintro e w' ⟨rfl, rfl⟩
  obtain ⟨bv, hbv⟩ : ∃ q_, q_ = inB x.secs id := ⟨_, rfl⟩
  have HV : Hid (bv = hasA x 1 id) := Lib.hid (by rw [hbv, inB_dec]; simp [hasA])
  rw [← hbv]
  clear hbv
  go_wp2_with fail
  go_ret
  exact ⟨by rw [← HV.out]; rfl, BQ.out⟩
 by_cases h2 : kind = 2
 ·subst h2
  clear hk hk2
  go_wp2_with fail
  refine (contains_any _ x.pts id q HX.out.pts).mono ?_
  rintro e w' ⟨rfl, rfl⟩
  obtain ⟨bv, hbv⟩ : ∃ q_, q_ = inB x.pts id := ⟨_, rfl⟩
  have HV : Hid (bv = hasA x 2 id) := Lib.hid (by rw [hbv, inB_dec]; simp [hasA])
  rw [← hbv]
  clear hbv
  go_wp2_with fail
  go_ret
  exact ⟨by rw [← HV.out]; rfl, BQ.out⟩
 by_cases h3 : kind = 3
 ·subst h3
  clear hk hk2
  go_wp2_with fail
  refine (contains_any _ x.sigs id q HX.out.sigs).mono ?_
  rintro e w' ⟨rfl, rfl⟩
  obtain ⟨bv, hbv⟩ : ∃ q_, q_ = inB x.sigs id := ⟨_, rfl⟩
  have HV : Hid (bv = hasA x 3 id) := Lib.hid (by rw [hbv, inB_dec]; simp [hasA])
  rw [← hbv]
  clear hbv
  go_wp2_with fail
  go_ret
  exact ⟨by rw [← HV.out]; rfl, BQ.out⟩
 by_cases h4 : kind = 4
 ·subst h4
  clear hk hk2
  go_wp2_with fail
  refine (contains_any _ x.routes id q HX.out.routes).mono ?_
  rintro e w' ⟨rfl, rfl⟩
  obtain ⟨bv, hbv⟩ : ∃ q_, q_ = inB x.routes id := ⟨_, rfl⟩
  have HV : Hid (bv = hasA x 4 id) := Lib.hid (by rw [hbv, inB_dec]; simp [hasA])
  rw [← hbv]
  clear hbv
  go_wp2_with fail
  go_ret
  exact ⟨by rw [← HV.out]; rfl, BQ.out⟩
 have HV : Hid (false = hasA x kind id) := Lib.hid (by simp [hasA, h1, h2, h3, h4])
 have d1 : (kind == 1) = false := by simpa using h1
 have d2 : (kind == 2) = false := by simpa using h2
 have d3 : (kind == 3) = false := by simpa using h3
 have d4 : (kind == 4) = false := by simpa using h4
 clear h1 h2 h3 h4 hk hk2
 go_wp2_with fail
 go_ret
 exact ⟨by rw [← HV.out]; rfl, BQ.out⟩
theorem eq_ar (x z : Ar) : eqB x z = (eqB x.secs z.secs && (eqB x.pts z.pts && (eqB x.sigs z.sigs && eqB x.routes z.routes))) := by
 rw [Bool.eq_iff_iff, eqB_iff]
 simp only [Bool.and_eq_true, eqB_iff]
 cases x; cases z
 simp
set_option maxHeartbeats 8000000 in
theorem psame14_any (v y : Value) (x z : Ar) (w : World) (h : AreaV w w.heap.size v x) (h' : AreaV w w.heap.size y z) :
  Calls Tryz.prog 13 #[v, y] w fun e w' => e = .returned (.bool (eqB x z)) ∧ Below w.heap.size w w' := by
 obtain ⟨u0, u1, u2, u3, rfl, hx⟩ := h
 obtain ⟨z0, z1, z2, z3, rfl, hz⟩ := h'
 obtain ⟨A0, n0, c0, rfl⟩ := in_slA hx.secs
 obtain ⟨A1, n1, c1, rfl⟩ := in_slA hx.pts
 obtain ⟨A2, n2, c2, rfl⟩ := in_slA hx.sigs
 obtain ⟨A3, n3, c3, rfl⟩ := in_slA hx.routes
 obtain ⟨B0, m0, e0, rfl⟩ := in_slA hz.secs
 obtain ⟨B1, m1, e1, rfl⟩ := in_slA hz.pts
 obtain ⟨B2, m2, e2, rfl⟩ := in_slA hz.sigs
 obtain ⟨B3, m3, e3, rfl⟩ := in_slA hz.routes
 obtain ⟨h0, h1, hb⟩ := two_boxes w (.cells #[.slice A0 n0 c0, .slice A1 n1 c1, .slice A2 n2 c2, .slice A3 n3 c3] 24) (.cells #[.slice B0 m0 e0, .slice B1 m1 e1, .slice B2 m2 e2, .slice B3 m3 e3] 24)
 go_enter Tryz.func13, Tryz.ntmps13
 go_upto_region 1 with fail
 generalize (w.alloc (.cells #[.slice A0 n0 c0, .slice A1 n1 c1, .slice A2 n2 c2, .slice A3 n3 c3] 24)).alloc (.cells #[.slice B0 m0 e0, .slice B1 m1 e1, .slice B2 m2 e2, .slice B3 m3 e3] 24) = q0 at h0 h1 hb ⊢
 have X0 := Lib.hid h0
 have X1 := Lib.hid h1
 have BQ0 := Lib.hid hb
 have HX0 := Lib.hid ((hx.below hb).more hb.size)
 have HZ0 := Lib.hid ((hz.below hb).more hb.size)
 clear h0 h1 hb hx hz
 obtain ⟨b0, hb0⟩ : ∃ q_, q_ = eqB x.secs z.secs := ⟨_, rfl⟩
 obtain ⟨b1, hb1⟩ : ∃ q_, q_ = eqB x.pts z.pts := ⟨_, rfl⟩
 obtain ⟨b2, hb2⟩ : ∃ q_, q_ = eqB x.sigs z.sigs := ⟨_, rfl⟩
 obtain ⟨b3, hb3⟩ : ∃ q_, q_ = eqB x.routes z.routes := ⟨_, rfl⟩
 have HV : Hid ((b0 && (b1 && (b2 && b3))) = eqB x z) := Lib.hid (by rw [eq_ar, hb0, hb1, hb2, hb3])
 have H0 := Lib.hid hb0
 have H1 := Lib.hid hb1
 have H2 := Lib.hid hb2
 have H3 := Lib.hid hb3
 clear hb0 hb1 hb2 hb3
 obtain ⟨k0, k1, k2, k3⟩ := cell4A X0.out
 obtain ⟨l0, l1, l2, l3⟩ := cell4A X1.out
 go_wp2_with fail
 refine (equal_int _ _ x.secs z.secs q0 HX0.out.secs HZ0.out.secs).mono ?_
 rintro e q1 ⟨rfl, b_⟩
 rw [← H0.out]
 have BQ1 := Lib.hid (BQ0.out.trans (b_.mono BQ0.out.size))
 have X0' := Lib.hid ((b_.block _ (heap_lt X0.out)).trans X0.out)
 have X1' := Lib.hid ((b_.block _ (heap_lt X1.out)).trans X1.out)
 have HX1 := Lib.hid ((HX0.out.below b_).more b_.size)
 have HZ1 := Lib.hid ((HZ0.out.below b_).more b_.size)
 clear X0 X1 HX0 HZ0 BQ0 b_ k0 k1 k2 k3 l0 l1 l2 l3 H0
 have X0 := X0'
 have X1 := X1'
 clear X0' X1'
 cases b0 with
 | false =>
  go_wp2_with fail
  go_ret
  exact ⟨by rw [← HV.out]; simp, BQ1.out⟩
 | true =>
  obtain ⟨k0, k1, k2, k3⟩ := cell4A X0.out
  obtain ⟨l0, l1, l2, l3⟩ := cell4A X1.out
  go_wp2_with fail
  refine (equal_int _ _ x.pts z.pts q1 HX1.out.pts HZ1.out.pts).mono ?_
  rintro e q2 ⟨rfl, b_⟩
  rw [← H1.out]
  have BQ2 := Lib.hid (BQ1.out.trans (b_.mono BQ1.out.size))
  have X0' := Lib.hid ((b_.block _ (heap_lt X0.out)).trans X0.out)
  have X1' := Lib.hid ((b_.block _ (heap_lt X1.out)).trans X1.out)
  have HX2 := Lib.hid ((HX1.out.below b_).more b_.size)
  have HZ2 := Lib.hid ((HZ1.out.below b_).more b_.size)
  clear X0 X1 HX1 HZ1 BQ1 b_ k0 k1 k2 k3 l0 l1 l2 l3 H1
  have X0 := X0'
  have X1 := X1'
  clear X0' X1'
  cases b1 with
  | false =>
   go_wp2_with fail
   go_ret
   exact ⟨by rw [← HV.out]; simp, BQ2.out⟩
  | true =>
   obtain ⟨k0, k1, k2, k3⟩ := cell4A X0.out
   obtain ⟨l0, l1, l2, l3⟩ := cell4A X1.out
   go_wp2_with fail
   refine (equal_int _ _ x.sigs z.sigs q2 HX2.out.sigs HZ2.out.sigs).mono ?_
   rintro e q3 ⟨rfl, b_⟩
   rw [← H2.out]
   have BQ3 := Lib.hid (BQ2.out.trans (b_.mono BQ2.out.size))
   have X0' := Lib.hid ((b_.block _ (heap_lt X0.out)).trans X0.out)
   have X1' := Lib.hid ((b_.block _ (heap_lt X1.out)).trans X1.out)
   have HX3 := Lib.hid ((HX2.out.below b_).more b_.size)
   have HZ3 := Lib.hid ((HZ2.out.below b_).more b_.size)
   clear X0 X1 HX2 HZ2 BQ2 b_ k0 k1 k2 k3 l0 l1 l2 l3 H2
   have X0 := X0'
   have X1 := X1'
   clear X0' X1'
   cases b2 with
   | false =>
    go_wp2_with fail
    go_ret
    exact ⟨by rw [← HV.out]; simp, BQ3.out⟩
   | true =>
    obtain ⟨k0, k1, k2, k3⟩ := cell4A X0.out
    obtain ⟨l0, l1, l2, l3⟩ := cell4A X1.out
    go_wp2_with fail
    refine (equal_int _ _ x.routes z.routes q3 HX3.out.routes HZ3.out.routes).mono ?_
    rintro e q4 ⟨rfl, b_⟩
    rw [← H3.out]
    have BQ4 := Lib.hid (BQ3.out.trans (b_.mono BQ3.out.size))
    have X0' := Lib.hid ((b_.block _ (heap_lt X0.out)).trans X0.out)
    have X1' := Lib.hid ((b_.block _ (heap_lt X1.out)).trans X1.out)
    have HX4 := Lib.hid ((HX3.out.below b_).more b_.size)
    have HZ4 := Lib.hid ((HZ3.out.below b_).more b_.size)
    clear X0 X1 HX3 HZ3 BQ3 b_ k0 k1 k2 k3 l0 l1 l2 l3 H3
    have X0 := X0'
    have X1 := X1'
    clear X0' X1'
    go_wp2_with fail
    go_ret
    exact ⟨by rw [← HV.out]; simp, BQ4.out⟩
end Go.Proofs.YtneeocnjfnneoaaGreat
