/-
  The document's own function Same of package plan, for any two.
  Conditions: none.
-/
import Derived.Test.YthlolpflgninjaaPlnRefI
set_option linter.unusedVariables false
set_option linter.unusedSimpArgs false
set_option maxRecDepth 100000
namespace Go.Proofs.Ythlolpflgninjaa
open Go.RowKit

set_option maxHeartbeats 16000000 in
theorem rsame8_any (v y : Value) (p q : Pl) (w : World) (h : PlanV w w.heap.size v p) (h' : PlanV w w.heap.size y q) :
    Calls Try.prog 23 #[v, y] w fun e w' => e = .returned (.bool (eqB p q)) ∧ Below w.heap.size w w' := by
  obtain ⟨y2, y3, y4, y5, rfl, h1⟩ := h
  obtain ⟨z2, z3, z4, z5, rfl, h2⟩ := h'
  obtain ⟨A2, ac2, rfl, hcl2, hcm2⟩ := h1.secs.slice
  obtain ⟨B2, bc2, rfl, hdl2, hdm2⟩ := h2.secs.slice
  obtain ⟨A3, ac3, rfl, hcl3, hcm3⟩ := h1.pts.slice
  obtain ⟨B3, bc3, rfl, hdl3, hdm3⟩ := h2.pts.slice
  obtain ⟨A4, ac4, rfl, hcl4, hcm4⟩ := h1.sigs.slice
  obtain ⟨B4, bc4, rfl, hdl4, hdm4⟩ := h2.sigs.slice
  obtain ⟨A5, ac5, rfl, hcl5, hcm5⟩ := h1.routes.slice
  obtain ⟨B5, bc5, rfl, hdl5, hdm5⟩ := h2.routes.slice
  obtain ⟨an2, ha2⟩ : ∃ n, n = p.secs.length := ⟨_, rfl⟩
  obtain ⟨bn2, hb2⟩ : ∃ n, n = q.secs.length := ⟨_, rfl⟩
  obtain ⟨an3, ha3⟩ : ∃ n, n = p.pts.length := ⟨_, rfl⟩
  obtain ⟨bn3, hb3⟩ : ∃ n, n = q.pts.length := ⟨_, rfl⟩
  obtain ⟨an4, ha4⟩ : ∃ n, n = p.sigs.length := ⟨_, rfl⟩
  obtain ⟨bn4, hb4⟩ : ∃ n, n = q.sigs.length := ⟨_, rfl⟩
  obtain ⟨an5, ha5⟩ : ∃ n, n = p.routes.length := ⟨_, rfl⟩
  obtain ⟨bn5, hb5⟩ : ∃ n, n = q.routes.length := ⟨_, rfl⟩
  have HA2 : Hid (SectsIn w w.heap.size (.slice A2 an2 ac2) p.secs) := Lib.hid (by rw [ha2]; exact h1.secs)
  have HB2 : Hid (SectsIn w w.heap.size (.slice B2 bn2 bc2) q.secs) := Lib.hid (by rw [hb2]; exact h2.secs)
  have HA3 : Hid (JoinsIn w w.heap.size (.slice A3 an3 ac3) p.pts) := Lib.hid (by rw [ha3]; exact h1.pts)
  have HB3 : Hid (JoinsIn w w.heap.size (.slice B3 bn3 bc3) q.pts) := Lib.hid (by rw [hb3]; exact h2.pts)
  have HA4 : Hid (SigsIn w w.heap.size (.slice A4 an4 ac4) p.sigs) := Lib.hid (by rw [ha4]; exact h1.sigs)
  have HB4 : Hid (SigsIn w w.heap.size (.slice B4 bn4 bc4) q.sigs) := Lib.hid (by rw [hb4]; exact h2.sigs)
  have HA5 : Hid (RoutesIn w w.heap.size (.slice A5 an5 ac5) p.routes) := Lib.hid (by rw [ha5]; exact h1.routes)
  have HB5 : Hid (RoutesIn w w.heap.size (.slice B5 bn5 bc5) q.routes) := Lib.hid (by rw [hb5]; exact h2.routes)
  unfold maxLen at hcm3 hdm3 hcm4 hdm4 hcm5 hdm5
  have hm3 : an3 ≤ 9223372036854775807 := by omega
  have hm3' : bn3 ≤ 9223372036854775807 := by omega
  have hm4 : an4 ≤ 9223372036854775807 := by omega
  have hm4' : bn4 ≤ 9223372036854775807 := by omega
  have hm5 : an5 ≤ 9223372036854775807 := by omega
  have hm5' : bn5 ≤ 9223372036854775807 := by omega
  have HN3 : Hid (an3 = p.pts.length ∧ bn3 = q.pts.length) := Lib.hid ⟨ha3, hb3⟩
  have HN4 : Hid (an4 = p.sigs.length ∧ bn4 = q.sigs.length) := Lib.hid ⟨ha4, hb4⟩
  have HN5 : Hid (an5 = p.routes.length ∧ bn5 = q.routes.length) := Lib.hid ⟨ha5, hb5⟩
  rw [← ha2, ← ha3, ← ha4, ← ha5, ← hb2, ← hb3, ← hb4, ← hb5]
  clear ha2 ha3 ha4 ha5 hb2 hb3 hb4 hb5 h1 h2 hcl2 hcm2 hcl3 hcm3 hcl4 hcm4 hcl5 hcm5 hdl2 hdm2 hdl3 hdm3 hdl4 hdm4 hdl5 hdm5
  have hq := two_boxes w (.cells #[.int .i64 p.ver, .int .i64 p.par, .slice A2 an2 ac2, .slice A3 an3 ac3, .slice A4 an4 ac4, .slice A5 an5 ac5] 30) (.cells #[.int .i64 q.ver, .int .i64 q.par, .slice B2 bn2 bc2, .slice B3 bn3 bc3, .slice B4 bn4 bc4, .slice B5 bn5 bc5] 30)
  go_enter Try.func23, Try.ntmps23
  go_upto_region 1 with fail
  generalize (w.alloc (.cells #[.int .i64 p.ver, .int .i64 p.par, .slice A2 an2 ac2, .slice A3 an3 ac3, .slice A4 an4 ac4, .slice A5 an5 ac5] 30)).alloc (.cells #[.int .i64 q.ver, .int .i64 q.par, .slice B2 bn2 bc2, .slice B3 bn3 bc3, .slice B4 bn4 bc4, .slice B5 bn5 bc5] 30) = q0 at hq ⊢
  obtain ⟨x0, x1, qb⟩ := hq
  have XA := Lib.hid x0
  have XB := Lib.hid x1
  have BZ := Lib.hid qb
  obtain ⟨k0, k1, k2, k3, k4, k5⟩ := cell6_of x0
  obtain ⟨r0, r1, r2, r3, r4, r5⟩ := cell6_of x1
  clear x0 x1 qb
  by_cases h_ver : p.ver = q.ver
  case neg =>
    have d_ver : (p.ver != q.ver) = true := by simpa using h_ver
    have HF : Hid (eqB p q = false) := Lib.hid (eqB_false (fun h => h_ver (by rw [h])))
    clear h_ver
    go_wp2_with fail
    go_ret
    exact ⟨by rw [HF.out]; rfl, BZ.out⟩
  have d_ver : (p.ver != q.ver) = false := by simpa using h_ver
  by_cases h_par : p.par = q.par
  case neg =>
    have d_par : (p.par != q.par) = true := by simpa using h_par
    have HF : Hid (eqB p q = false) := Lib.hid (eqB_false (fun h => h_par (by rw [h])))
    clear h_ver h_par
    go_wp2_with fail
    go_ret
    exact ⟨by rw [HF.out]; rfl, BZ.out⟩
  have d_par : (p.par != q.par) = false := by simpa using h_par
  have TWO : Hid (p.ver = q.ver ∧ p.par = q.par) := Lib.hid ⟨h_ver, h_par⟩
  clear h_ver h_par
  go_wp2_with fail
  refine (rsameall7_any _ _ p.secs q.secs q0 ((HA2.out.below secR_ BZ.out).more secR_ BZ.out.size) ((HB2.out.below secR_ BZ.out).more secR_ BZ.out.size)).mono ?_
  rintro e w1 ⟨rfl, b1⟩
  have tXA := (b1.block _ (heap_lt XA.out)).trans XA.out
  have tXB := (b1.block _ (heap_lt XB.out)).trans XB.out
  have tBZ := BZ.out.trans (b1.mono BZ.out.size)
  clear XA XB BZ b1 k0 k1 k2 k3 k4 k5 r0 r1 r2 r3 r4 r5
  have XA := Lib.hid tXA
  have XB := Lib.hid tXB
  have BZ := Lib.hid tBZ
  clear tXA tXB tBZ
  obtain ⟨k0, k1, k2, k3, k4, k5⟩ := cell6_of XA.out
  obtain ⟨r0, r1, r2, r3, r4, r5⟩ := cell6_of XB.out
  cases hp : eqB p.secs q.secs with
  | false =>
    have HF : Hid (eqB p q = false) := Lib.hid (eqB_false (fun h => by rw [eqB_true (by rw [h])] at hp; cases hp))
    clear hp
    go_wp2_with fail
    go_ret
    exact ⟨by rw [HF.out]; rfl, BZ.out⟩
  | true =>
  have HSEC := Lib.hid (eqB_iff.1 hp)
  clear hp
  by_cases hn3 : an3 = bn3
  case neg =>
    have d3 : ((an3 : Int) != bn3) = true := by rw [bne_iff_ne]; omega
    have HF : Hid (eqB p q = false) := Lib.hid (eqB_false (fun h => hn3 (by have := HN3.out; rw [h] at this; omega)))
    clear hn3
    go_wp2_with fail
    go_ret
    exact ⟨by rw [HF.out]; rfl, BZ.out⟩
  subst hn3
  by_cases hn4 : an4 = bn4
  case neg =>
    have d4 : ((an4 : Int) != bn4) = true := by rw [bne_iff_ne]; omega
    have HF : Hid (eqB p q = false) := Lib.hid (eqB_false (fun h => hn4 (by have := HN4.out; rw [h] at this; omega)))
    clear hn4
    go_wp2_with fail
    go_ret
    exact ⟨by rw [HF.out]; rfl, BZ.out⟩
  subst hn4
  by_cases hn5 : an5 = bn5
  case neg =>
    have d5 : ((an5 : Int) != bn5) = true := by rw [bne_iff_ne]; omega
    have HF : Hid (eqB p q = false) := Lib.hid (eqB_false (fun h => hn5 (by have := HN5.out; rw [h] at this; omega)))
    clear hn5
    go_wp2_with fail
    go_ret
    exact ⟨by rw [HF.out]; rfl, BZ.out⟩
  subst hn5
  have HN : Hid (an3 = p.pts.length ∧ an3 = q.pts.length) := HN3
  have NEQ : Hid (¬ p.pts = q.pts → eqB p q = false) := Lib.hid (fun h => eqB_false (fun h2 => h (by rw [h2])))
  go_wp2_with fail
  go_loopw [5] (fun sL wr => ∃ i : Nat, i ≤ an3 ∧ sL = .int .i64 i ∧ (∀ j (hj : j < i) (h1 : j < p.pts.length) (h2 : j < q.pts.length), p.pts[j] = q.pts[j]) ∧ wr.heap[w.heap.size]? = some (.cells #[.int .i64 p.ver, .int .i64 p.par, .slice A2 an2 ac2, .slice A3 an3 ac3, .slice A4 an4 ac4, .slice A5 an5 ac5] 30 (0, 0)) ∧ wr.heap[w.heap.size + 1]? = some (.cells #[.int .i64 q.ver, .int .i64 q.par, .slice B2 bn2 bc2, .slice B3 an3 bc3, .slice B4 an4 bc4, .slice B5 an5 bc5] 30 (0, 0)) ∧ Below w.heap.size w wr) (fun sL _ => an3 - (intOf sL).toNat)
  case atStart => exact ⟨0, by omega, by go_num, fun j hj => absurd hj (by omega), XA.out, XB.out, BZ.out⟩
  case round =>
    obtain ⟨i, hi, rfl, hall, hxa, hxb, hbw⟩ := hrel
    have HALL := Lib.hid hall
    clear XA XB BZ
    have XA := Lib.hid hxa
    have XB := Lib.hid hxb
    have BZ := Lib.hid hbw
    clear hall hxa hxb hbw
    obtain ⟨k0, k1, k2, k3, k4, k5⟩ := cell6_.1 XA.out
    obtain ⟨r0, r1, r2, r3, r4, r5⟩ := cell6_.1 XB.out
    by_cases hlt : i < an3
    · have hlt2 : (i : Int) < an3 := by omega
      have hir : i < p.pts.length := by have := HN.out; omega
      have him : i < q.pts.length := by have := HN.out; omega
      obtain ⟨b, off, e1, hb, hc0, hc1⟩ := ((HA3.out.below joinR BZ.out).more joinR BZ.out.size).at hir
      obtain ⟨b', off', e2, hb', hd0, hd1⟩ := ((HB3.out.below joinR BZ.out).more joinR BZ.out.size).at him
      subst e1
      subst e2
      obtain ⟨x, hx⟩ : ∃ x, x = p.pts[i] := ⟨_, rfl⟩
      obtain ⟨y, hy⟩ : ∃ y, y = q.pts[i] := ⟨_, rfl⟩
      rw [← hx] at hc0 hc1
      rw [← hy] at hd0 hd1
      have hg0 : wr.cell? ⟨b, off + i * 2, none⟩ = some (.int .i64 x.1) := hc0
      have hh0 : wr.cell? ⟨b', off' + i * 2, none⟩ = some (.int .i64 y.1) := hd0
      have hg1 : wr.cell? ⟨b, off + i * 2 + 1, none⟩ = some (.int .i64 x.2) := hc1
      have hh1 : wr.cell? ⟨b', off' + i * 2 + 1, none⟩ = some (.int .i64 y.2) := hd1
      have HX := Lib.hid hx
      have HY := Lib.hid hy
      have BD : Hid (∀ nq, Below w.heap.size w (wr.drewN nq)) := Lib.hid (fun nq => ⟨BZ.out.os, BZ.out.tape, BZ.out.output, BZ.out.size, BZ.out.block⟩)
      have XD : Hid (∀ nq, (wr.drewN nq).heap[w.heap.size]? = wr.heap[w.heap.size]? ∧ (wr.drewN nq).heap[w.heap.size + 1]? = wr.heap[w.heap.size + 1]?) := Lib.hid (fun nq => ⟨rfl, rfl⟩)
      clear hc0 hc1 hd0 hd1 hx hy hb hb'
      go_upto_region 6 with fail
      by_cases he : x = y
      · have hcmp : ∀ w' : World, (Op.equalIn 10000 43 (.agg #[.int .i64 x.1, .int .i64 x.2]) (.agg #[.int .i64 y.1, .int .i64 y.2])).run Try.prog w' = .ok true w' := eqPoint_eq he
        have NX : Hid (∀ j (hj : j < i + 1) (h1 : j < p.pts.length) (h2 : j < q.pts.length), p.pts[j] = q.pts[j]) := Lib.hid (fun j hj h1 h2 => by
          rcases Nat.lt_or_ge j i with h | h
          · exact HALL.out j h h1 h2
          · obtain rfl : j = i := by omega
            rw [← HX.out, ← HY.out]; exact he)
        clear he
        go_quiet (fail)
        have hdb := BD.out nq
        have hdx := XD.out nq
        rw [XA.out, XB.out] at hdx
        generalize wr.drewN nq = q7 at hdb hdx ⊢
        have B7 := Lib.hid hdb
        have X7 := Lib.hid hdx
        clear hdb hdx BD XD hcmp
        go_wp2_with fail
        go_roundw
        case measure => simp [intOf]; omega
        case rel => exact ⟨i + 1, by omega, by go_num, NX.out, X7.out.1, X7.out.2, B7.out⟩
      · have hcmp : ∀ w' : World, (Op.equalIn 10000 43 (.agg #[.int .i64 x.1, .int .i64 x.2]) (.agg #[.int .i64 y.1, .int .i64 y.2])).run Try.prog w' = .ok false w' := eqPoint_ne he
        have HF : Hid (eqB p q = false) := Lib.hid (NEQ.out (fun h => he (by rw [HX.out, HY.out]; exact getElem_congr' h)))
        clear he
        go_quiet (fail)
        have hdb := BD.out nq
        generalize wr.drewN nq = q7 at hdb ⊢
        have B7 := Lib.hid hdb
        clear hdb BD XD hcmp
        go_wp2_with fail
        go_ret
        exact ⟨by rw [HF.out]; rfl, B7.out⟩
    · obtain rfl : an3 = i := by omega
      have hlt2 : ¬ (an3 : Int) < an3 := by omega
      have ALLQ : Hid (p.pts = q.pts) := Lib.hid (list_ext (by have := HN.out; omega) fun j h1 h2 => HALL.out j (by have := HN.out; omega) h1 h2)
      clear HALL NEQ
      have HPTS := ALLQ
      clear ALLQ HN
      have HN : Hid (an4 = p.sigs.length ∧ an4 = q.sigs.length) := HN4
      have NEQ : Hid (¬ p.sigs = q.sigs → eqB p q = false) := Lib.hid (fun h => eqB_false (fun h2 => h (by rw [h2])))
      go_wp2_with fail
      go_loopw [6] (fun sL wr => ∃ i : Nat, i ≤ an4 ∧ sL = .int .i64 i ∧ (∀ j (hj : j < i) (h1 : j < p.sigs.length) (h2 : j < q.sigs.length), p.sigs[j] = q.sigs[j]) ∧ wr.heap[w.heap.size]? = some (.cells #[.int .i64 p.ver, .int .i64 p.par, .slice A2 an2 ac2, .slice A3 an3 ac3, .slice A4 an4 ac4, .slice A5 an5 ac5] 30 (0, 0)) ∧ wr.heap[w.heap.size + 1]? = some (.cells #[.int .i64 q.ver, .int .i64 q.par, .slice B2 bn2 bc2, .slice B3 an3 bc3, .slice B4 an4 bc4, .slice B5 an5 bc5] 30 (0, 0)) ∧ Below w.heap.size w wr) (fun sL _ => an4 - (intOf sL).toNat)
      case atStart => exact ⟨0, by omega, by go_num, fun j hj => absurd hj (by omega), XA.out, XB.out, BZ.out⟩
      case round =>
        obtain ⟨i, hi, rfl, hall, hxa, hxb, hbw⟩ := hrel
        have HALL := Lib.hid hall
        clear XA XB BZ
        have XA := Lib.hid hxa
        have XB := Lib.hid hxb
        have BZ := Lib.hid hbw
        clear hall hxa hxb hbw
        obtain ⟨k0, k1, k2, k3, k4, k5⟩ := cell6_.1 XA.out
        obtain ⟨r0, r1, r2, r3, r4, r5⟩ := cell6_.1 XB.out
        by_cases hlt : i < an4
        · have hlt2 : (i : Int) < an4 := by omega
          have hir : i < p.sigs.length := by have := HN.out; omega
          have him : i < q.sigs.length := by have := HN.out; omega
          obtain ⟨b, off, e1, hb, hc0, hc1, hc2⟩ := ((HA4.out.below sigR BZ.out).more sigR BZ.out.size).at hir
          obtain ⟨b', off', e2, hb', hd0, hd1, hd2⟩ := ((HB4.out.below sigR BZ.out).more sigR BZ.out.size).at him
          subst e1
          subst e2
          obtain ⟨x, hx⟩ : ∃ x, x = p.sigs[i] := ⟨_, rfl⟩
          obtain ⟨y, hy⟩ : ∃ y, y = q.sigs[i] := ⟨_, rfl⟩
          rw [← hx] at hc0 hc1 hc2
          rw [← hy] at hd0 hd1 hd2
          have hg0 : wr.cell? ⟨b, off + i * 3, none⟩ = some (.int .i64 x.1) := hc0
          have hh0 : wr.cell? ⟨b', off' + i * 3, none⟩ = some (.int .i64 y.1) := hd0
          have hg1 : wr.cell? ⟨b, off + i * 3 + 1, none⟩ = some (.int .i64 x.2.1) := hc1
          have hh1 : wr.cell? ⟨b', off' + i * 3 + 1, none⟩ = some (.int .i64 y.2.1) := hd1
          have hg2 : wr.cell? ⟨b, off + i * 3 + 2, none⟩ = some (.int .i64 x.2.2) := hc2
          have hh2 : wr.cell? ⟨b', off' + i * 3 + 2, none⟩ = some (.int .i64 y.2.2) := hd2
          have HX := Lib.hid hx
          have HY := Lib.hid hy
          have BD : Hid (∀ nq, Below w.heap.size w (wr.drewN nq)) := Lib.hid (fun nq => ⟨BZ.out.os, BZ.out.tape, BZ.out.output, BZ.out.size, BZ.out.block⟩)
          have XD : Hid (∀ nq, (wr.drewN nq).heap[w.heap.size]? = wr.heap[w.heap.size]? ∧ (wr.drewN nq).heap[w.heap.size + 1]? = wr.heap[w.heap.size + 1]?) := Lib.hid (fun nq => ⟨rfl, rfl⟩)
          clear hc0 hc1 hc2 hd0 hd1 hd2 hx hy hb hb'
          go_upto_region 11 with fail
          by_cases he : x = y
          · have hcmp : ∀ w' : World, (Op.equalIn 10000 49 (.agg #[.int .i64 x.1, .int .i64 x.2.1, .int .i64 x.2.2]) (.agg #[.int .i64 y.1, .int .i64 y.2.1, .int .i64 y.2.2])).run Try.prog w' = .ok true w' := eqSig_eq he
            have NX : Hid (∀ j (hj : j < i + 1) (h1 : j < p.sigs.length) (h2 : j < q.sigs.length), p.sigs[j] = q.sigs[j]) := Lib.hid (fun j hj h1 h2 => by
              rcases Nat.lt_or_ge j i with h | h
              · exact HALL.out j h h1 h2
              · obtain rfl : j = i := by omega
                rw [← HX.out, ← HY.out]; exact he)
            clear he
            go_quiet (fail)
            have hdb := BD.out nq
            have hdx := XD.out nq
            rw [XA.out, XB.out] at hdx
            generalize wr.drewN nq = q7 at hdb hdx ⊢
            have B7 := Lib.hid hdb
            have X7 := Lib.hid hdx
            clear hdb hdx BD XD hcmp
            go_wp2_with fail
            go_roundw
            case measure => simp [intOf]; omega
            case rel => exact ⟨i + 1, by omega, by go_num, NX.out, X7.out.1, X7.out.2, B7.out⟩
          · have hcmp : ∀ w' : World, (Op.equalIn 10000 49 (.agg #[.int .i64 x.1, .int .i64 x.2.1, .int .i64 x.2.2]) (.agg #[.int .i64 y.1, .int .i64 y.2.1, .int .i64 y.2.2])).run Try.prog w' = .ok false w' := eqSig_ne he
            have HF : Hid (eqB p q = false) := Lib.hid (NEQ.out (fun h => he (by rw [HX.out, HY.out]; exact getElem_congr' h)))
            clear he
            go_quiet (fail)
            have hdb := BD.out nq
            generalize wr.drewN nq = q7 at hdb ⊢
            have B7 := Lib.hid hdb
            clear hdb BD XD hcmp
            go_wp2_with fail
            go_ret
            exact ⟨by rw [HF.out]; rfl, B7.out⟩
        · obtain rfl : an4 = i := by omega
          have hlt2 : ¬ (an4 : Int) < an4 := by omega
          have ALLQ : Hid (p.sigs = q.sigs) := Lib.hid (list_ext (by have := HN.out; omega) fun j h1 h2 => HALL.out j (by have := HN.out; omega) h1 h2)
          clear HALL NEQ
          have HSIG := ALLQ
          clear ALLQ
          go_wp2_with fail
          go_loopw [7] (fun sL wr => ∃ i : Nat, i ≤ an5 ∧ sL = .int .i64 i ∧ (∀ j (hj : j < i) (h1 : j < p.routes.length) (h2 : j < q.routes.length), p.routes[j] = q.routes[j]) ∧ wr.heap[w.heap.size]? = some (.cells #[.int .i64 p.ver, .int .i64 p.par, .slice A2 an2 ac2, .slice A3 an3 ac3, .slice A4 an4 ac4, .slice A5 an5 ac5] 30 (0, 0)) ∧ wr.heap[w.heap.size + 1]? = some (.cells #[.int .i64 q.ver, .int .i64 q.par, .slice B2 bn2 bc2, .slice B3 an3 bc3, .slice B4 an4 bc4, .slice B5 an5 bc5] 30 (0, 0)) ∧ Below w.heap.size w wr) (fun sL _ => an5 - (intOf sL).toNat)
          case atStart => exact ⟨0, by omega, by go_num, fun j hj => absurd hj (by omega), XA.out, XB.out, BZ.out⟩
          case round =>
            obtain ⟨i, hi, rfl, hall, hxa, hxb, hbw⟩ := hrel
            have HALL := Lib.hid hall
            clear XA XB BZ
            have XA := Lib.hid hxa
            have XB := Lib.hid hxb
            have BZ := Lib.hid hbw
            clear hall hxa hxb hbw
            obtain ⟨k0, k1, k2, k3, k4, k5⟩ := cell6_of XA.out
            obtain ⟨r0, r1, r2, r3, r4, r5⟩ := cell6_of XB.out
            by_cases hlt : i < an5
            · have hlt2 : (i : Int) < an5 := by omega
              have hir : i < p.routes.length := by have := HN5.out; omega
              have him : i < q.routes.length := by have := HN5.out; omega
              obtain ⟨b, off, e1, hb, hc0, hc1, hc2, hc6, u3, u4, u5, hc3, hc4, hc5, hr⟩ := ((HA5.out.below routeR BZ.out).more routeR BZ.out.size).at hir
              obtain ⟨b', off', e2, hb', hd0, hd1, hd2, hd6, v3, v4, v5, hd3, hd4, hd5, hs⟩ := ((HB5.out.below routeR BZ.out).more routeR BZ.out.size).at him
              subst e1
              subst e2
              obtain ⟨R, hR⟩ : ∃ R, R = p.routes[i] := ⟨_, rfl⟩
              obtain ⟨S, hS⟩ : ∃ S, S = q.routes[i] := ⟨_, rfl⟩
              rw [← hR] at hc0 hc1 hc2 hc6 hr
              rw [← hS] at hd0 hd1 hd2 hd6 hs
              obtain ⟨D3, dd3, rfl, -, -⟩ := hr.path.slice
              obtain ⟨D4, dd4, rfl, -, -⟩ := hr.over.slice
              obtain ⟨D5, dd5, rfl, -, -⟩ := hr.flanks.slice
              obtain ⟨E3, ee3, rfl, -, -⟩ := hs.path.slice
              obtain ⟨E4, ee4, rfl, -, -⟩ := hs.over.slice
              obtain ⟨E5, ee5, rfl, -, -⟩ := hs.flanks.slice
              have LG0 : Hid (wr.cell? ⟨b, off + i * 7, none⟩ = some (.int .i64 R.id)) := Lib.hid hc0
              have LG1 : Hid (wr.cell? ⟨b, off + i * 7 + 1, none⟩ = some (.int .i64 R.entry)) := Lib.hid hc1
              have LG2 : Hid (wr.cell? ⟨b, off + i * 7 + 2, none⟩ = some (.int .i64 R.exit)) := Lib.hid hc2
              have LG3 : Hid (wr.cell? ⟨b, off + i * 7 + 3, none⟩ = some (.slice D3 R.path.length dd3)) := Lib.hid hc3
              have LG4 : Hid (wr.cell? ⟨b, off + i * 7 + 4, none⟩ = some (.slice D4 R.over.length dd4)) := Lib.hid hc4
              have LG5 : Hid (wr.cell? ⟨b, off + i * 7 + 5, none⟩ = some (.slice D5 R.flanks.length dd5)) := Lib.hid hc5
              have LG6 : Hid (wr.cell? ⟨b, off + i * 7 + 6, none⟩ = some (.int .i64 R.timer)) := Lib.hid hc6
              have LH0 : Hid (wr.cell? ⟨b', off' + i * 7, none⟩ = some (.int .i64 S.id)) := Lib.hid hd0
              have LH1 : Hid (wr.cell? ⟨b', off' + i * 7 + 1, none⟩ = some (.int .i64 S.entry)) := Lib.hid hd1
              have LH2 : Hid (wr.cell? ⟨b', off' + i * 7 + 2, none⟩ = some (.int .i64 S.exit)) := Lib.hid hd2
              have LH3 : Hid (wr.cell? ⟨b', off' + i * 7 + 3, none⟩ = some (.slice E3 S.path.length ee3)) := Lib.hid hd3
              have LH4 : Hid (wr.cell? ⟨b', off' + i * 7 + 4, none⟩ = some (.slice E4 S.over.length ee4)) := Lib.hid hd4
              have LH5 : Hid (wr.cell? ⟨b', off' + i * 7 + 5, none⟩ = some (.slice E5 S.flanks.length ee5)) := Lib.hid hd5
              have LH6 : Hid (wr.cell? ⟨b', off' + i * 7 + 6, none⟩ = some (.int .i64 S.timer)) := Lib.hid hd6
              have SV1 : Hid (RouteV wr wr.heap.size (.agg #[.int .i64 R.id, .int .i64 R.entry, .int .i64 R.exit, .slice D3 R.path.length dd3, .slice D4 R.over.length dd4, .slice D5 R.flanks.length dd5, .int .i64 R.timer]) R) := Lib.hid ⟨_, _, _, rfl, hr⟩
              have SV2 : Hid (RouteV wr wr.heap.size (.agg #[.int .i64 S.id, .int .i64 S.entry, .int .i64 S.exit, .slice E3 S.path.length ee3, .slice E4 S.over.length ee4, .slice E5 S.flanks.length ee5, .int .i64 S.timer]) S) := Lib.hid ⟨_, _, _, rfl, hs⟩
              have LGB := Lib.hid hb
              have LHB := Lib.hid hb'
              have HX := Lib.hid hR
              have HY := Lib.hid hS
              clear hc0 hc1 hc2 hc3 hc4 hc5 hc6 hd0 hd1 hd2 hd3 hd4 hd5 hd6 hr hs hR hS hb hb'
              go_upto_region 16 with fail
              clear k0 k1 k2 k3 k4 k5 r0 r1 r2 r3 r4 r5
              cases hq5 : eqB R S with
              | true =>
                have NX : Hid (∀ j (hj : j < i + 1) (h1 : j < p.routes.length) (h2 : j < q.routes.length), p.routes[j] = q.routes[j]) := Lib.hid (fun j hj h1 h2 => by
                  rcases Nat.lt_or_ge j i with h | h
                  · exact HALL.out j h h1 h2
                  · obtain rfl : j = i := by omega
                    rw [← HX.out, ← HY.out]; exact eqB_iff.1 hq5)
                refine wp_region_held_drew (S := fun v => Below wr.heap.size wr v) (by kernel_rfl) (Below.refl wr.heap.size wr).drew (fun hHeld => ?_)
                refine wpAnyH_take (i := 0) (v := ?_) rfl (by kernel_rfl) (by kernel_rfl) (by kernel_rfl) (fun _ _ _ h => h) (Or.inl ⟨by rfl, ?_⟩) hHeld ?_
                rotate_left
                · intro w' hSw; go_simp; try with_reducible rfl
                simp only [List.getElem_toArray, List.getElem_cons_succ, List.getElem_cons_zero, Act.put, List.setIfInBounds_toArray, List.set_cons_zero, List.set_cons_succ]
                refine wpAnyH_take (i := 1) (v := ?_) rfl (by kernel_rfl) (by kernel_rfl) (by kernel_rfl) (fun _ _ _ h => h) (Or.inl ⟨by rfl, ?_⟩) hHeld ?_
                rotate_left
                · intro w' hSw; obtain ⟨cv0, cv1, cv2, cv3, cv4, cv5⟩ := cell6_of ((hSw.block _ (heap_lt XA.out)).trans XA.out); go_simp; try with_reducible rfl
                simp only [List.getElem_toArray, List.getElem_cons_succ, List.getElem_cons_zero, Act.put, List.setIfInBounds_toArray, List.set_cons_zero, List.set_cons_succ]
                refine wpAnyH_take (i := 2) (v := ?_) rfl (by kernel_rfl) (by kernel_rfl) (by kernel_rfl) (fun _ _ _ h => h) (Or.inl ⟨by rfl, ?_⟩) hHeld ?_
                rotate_left
                · intro w' hSw; go_simp; try with_reducible rfl
                simp only [List.getElem_toArray, List.getElem_cons_succ, List.getElem_cons_zero, Act.put, List.setIfInBounds_toArray, List.set_cons_zero, List.set_cons_succ]
                refine wpAnyH_take (i := 3) (v := ?_) rfl (by kernel_rfl) (by kernel_rfl) (by kernel_rfl) (fun _ _ _ h => h) (Or.inl ⟨by rfl, ?_⟩) hHeld ?_
                rotate_left
                · intro w' hSw; go_simp; try with_reducible rfl
                simp only [List.getElem_toArray, List.getElem_cons_succ, List.getElem_cons_zero, Act.put, List.setIfInBounds_toArray, List.set_cons_zero, List.set_cons_succ]
                refine wpAnyH_take (i := 4) (v := ?_) rfl (by kernel_rfl) (by kernel_rfl) (by kernel_rfl) (fun _ _ _ h => h) (Or.inl ⟨by rfl, ?_⟩) hHeld ?_
                rotate_left
                · intro w' hSw; have cs0 := (hSw.cell (p := ⟨b, off + i * 7, none⟩) LGB.out).trans LG0.out; have cs1 := (hSw.cell (p := ⟨b, off + i * 7 + 1, none⟩) LGB.out).trans LG1.out; have cs2 := (hSw.cell (p := ⟨b, off + i * 7 + 2, none⟩) LGB.out).trans LG2.out; have cs3 := (hSw.cell (p := ⟨b, off + i * 7 + 3, none⟩) LGB.out).trans LG3.out; have cs4 := (hSw.cell (p := ⟨b, off + i * 7 + 4, none⟩) LGB.out).trans LG4.out; have cs5 := (hSw.cell (p := ⟨b, off + i * 7 + 5, none⟩) LGB.out).trans LG5.out; have cs6 := (hSw.cell (p := ⟨b, off + i * 7 + 6, none⟩) LGB.out).trans LG6.out; go_simp; try with_reducible rfl
                simp only [List.getElem_toArray, List.getElem_cons_succ, List.getElem_cons_zero, Act.put, List.setIfInBounds_toArray, List.set_cons_zero, List.set_cons_succ]
                refine wpAnyH_take (i := 5) (v := ?_) rfl (by kernel_rfl) (by kernel_rfl) (by kernel_rfl) (fun _ _ _ h => h) (Or.inl ⟨by rfl, ?_⟩) hHeld ?_
                rotate_left
                · intro w' hSw; go_simp; try with_reducible rfl
                simp only [List.getElem_toArray, List.getElem_cons_succ, List.getElem_cons_zero, Act.put, List.setIfInBounds_toArray, List.set_cons_zero, List.set_cons_succ]
                refine wpAnyH_take (i := 6) (v := ?_) rfl (by kernel_rfl) (by kernel_rfl) (by kernel_rfl) (fun _ _ _ h => h) (Or.inl ⟨by rfl, ?_⟩) hHeld ?_
                rotate_left
                · intro w' hSw; obtain ⟨cr0, cr1, cr2, cr3, cr4, cr5⟩ := cell6_of ((hSw.block _ (heap_lt XB.out)).trans XB.out); go_simp; try with_reducible rfl
                simp only [List.getElem_toArray, List.getElem_cons_succ, List.getElem_cons_zero, Act.put, List.setIfInBounds_toArray, List.set_cons_zero, List.set_cons_succ]
                refine wpAnyH_take (i := 7) (v := ?_) rfl (by kernel_rfl) (by kernel_rfl) (by kernel_rfl) (fun _ _ _ h => h) (Or.inl ⟨by rfl, ?_⟩) hHeld ?_
                rotate_left
                · intro w' hSw; go_simp; try with_reducible rfl
                simp only [List.getElem_toArray, List.getElem_cons_succ, List.getElem_cons_zero, Act.put, List.setIfInBounds_toArray, List.set_cons_zero, List.set_cons_succ]
                refine wpAnyH_take (i := 8) (v := ?_) rfl (by kernel_rfl) (by kernel_rfl) (by kernel_rfl) (fun _ _ _ h => h) (Or.inl ⟨by rfl, ?_⟩) hHeld ?_
                rotate_left
                · intro w' hSw; go_simp; try with_reducible rfl
                simp only [List.getElem_toArray, List.getElem_cons_succ, List.getElem_cons_zero, Act.put, List.setIfInBounds_toArray, List.set_cons_zero, List.set_cons_succ]
                refine wpAnyH_take (i := 9) (v := ?_) rfl (by kernel_rfl) (by kernel_rfl) (by kernel_rfl) (fun _ _ _ h => h) (Or.inl ⟨by rfl, ?_⟩) hHeld ?_
                rotate_left
                · intro w' hSw; have ct0 := (hSw.cell (p := ⟨b', off' + i * 7, none⟩) LHB.out).trans LH0.out; have ct1 := (hSw.cell (p := ⟨b', off' + i * 7 + 1, none⟩) LHB.out).trans LH1.out; have ct2 := (hSw.cell (p := ⟨b', off' + i * 7 + 2, none⟩) LHB.out).trans LH2.out; have ct3 := (hSw.cell (p := ⟨b', off' + i * 7 + 3, none⟩) LHB.out).trans LH3.out; have ct4 := (hSw.cell (p := ⟨b', off' + i * 7 + 4, none⟩) LHB.out).trans LH4.out; have ct5 := (hSw.cell (p := ⟨b', off' + i * 7 + 5, none⟩) LHB.out).trans LH5.out; have ct6 := (hSw.cell (p := ⟨b', off' + i * 7 + 6, none⟩) LHB.out).trans LH6.out; go_simp; try with_reducible rfl
                simp only [List.getElem_toArray, List.getElem_cons_succ, List.getElem_cons_zero, Act.put, List.setIfInBounds_toArray, List.set_cons_zero, List.set_cons_succ]
                refine wpAnyH_ready (rs := [10]) (by kernel_rfl) (by simp) ?_
                refine AllReadyH.cons rfl (fun K hK => ?_) AllReadyH.nil
                go_simp
                refine (rsameroute_any _ _ R S wr.drew (SV1.out.below (Below.refl wr.heap.size wr).drew) (SV2.out.below (Below.refl wr.heap.size wr).drew)).mono ?_
                rintro e w5 ⟨rfl, b5⟩
                rw [hq5]
                have B5 : Hid (Below wr.heap.size wr w5) := Lib.hid ((Below.refl wr.heap.size wr).drew.trans b5)
                clear b5
                try go_wp2_with fail
                refine hK.out _ _ ?_ (fun hHeld => ?_)
                · exact B5.out
                clear hK K
                try simp only [List.getElem_toArray, List.getElem_cons_succ, List.getElem_cons_zero, Act.put, List.setIfInBounds_toArray, List.set_cons_zero, List.set_cons_succ]
                refine wpAnyH_take (i := 11) (v := ?_) rfl (by kernel_rfl) (by kernel_rfl) (by kernel_rfl) (fun _ _ _ h => h) (Or.inl ⟨by rfl, ?_⟩) hHeld ?_
                rotate_left
                · intro w' hSw; go_simp; try with_reducible rfl
                simp only [List.getElem_toArray, List.getElem_cons_succ, List.getElem_cons_zero, Act.put, List.setIfInBounds_toArray, List.set_cons_zero, List.set_cons_succ]
                refine wpAnyH_done (by kernel_rfl) ?_ _
                have BY : Hid (Below w.heap.size w w5) := Lib.hid (BZ.out.trans (B5.out.mono BZ.out.size))
                have Y1 := Lib.hid ((B5.out.block _ (heap_lt XA.out)).trans XA.out)
                have Y2 := Lib.hid ((B5.out.block _ (heap_lt XB.out)).trans XB.out)
                go_wp2_with fail
                go_roundw
                case measure => simp [intOf]; omega
                case rel => exact ⟨i + 1, by omega, by go_num, NX.out, Y1.out, Y2.out, BY.out⟩
              | false =>
                have HF : Hid (eqB p q = false) := Lib.hid (eqB_false (fun h => by
                  have h2 := getElem_congr' (h1 := hir) (h2 := him) (show p.routes = q.routes by rw [h])
                  rw [← HX.out, ← HY.out] at h2
                  rw [eqB_true h2] at hq5
                  cases hq5))
                refine wp_region_held_drew (S := fun v => Below wr.heap.size wr v) (by kernel_rfl) (Below.refl wr.heap.size wr).drew (fun hHeld => ?_)
                refine wpAnyH_take (i := 0) (v := ?_) rfl (by kernel_rfl) (by kernel_rfl) (by kernel_rfl) (fun _ _ _ h => h) (Or.inl ⟨by rfl, ?_⟩) hHeld ?_
                rotate_left
                · intro w' hSw; go_simp; try with_reducible rfl
                simp only [List.getElem_toArray, List.getElem_cons_succ, List.getElem_cons_zero, Act.put, List.setIfInBounds_toArray, List.set_cons_zero, List.set_cons_succ]
                refine wpAnyH_take (i := 1) (v := ?_) rfl (by kernel_rfl) (by kernel_rfl) (by kernel_rfl) (fun _ _ _ h => h) (Or.inl ⟨by rfl, ?_⟩) hHeld ?_
                rotate_left
                · intro w' hSw; obtain ⟨cv0, cv1, cv2, cv3, cv4, cv5⟩ := cell6_of ((hSw.block _ (heap_lt XA.out)).trans XA.out); go_simp; try with_reducible rfl
                simp only [List.getElem_toArray, List.getElem_cons_succ, List.getElem_cons_zero, Act.put, List.setIfInBounds_toArray, List.set_cons_zero, List.set_cons_succ]
                refine wpAnyH_take (i := 2) (v := ?_) rfl (by kernel_rfl) (by kernel_rfl) (by kernel_rfl) (fun _ _ _ h => h) (Or.inl ⟨by rfl, ?_⟩) hHeld ?_
                rotate_left
                · intro w' hSw; go_simp; try with_reducible rfl
                simp only [List.getElem_toArray, List.getElem_cons_succ, List.getElem_cons_zero, Act.put, List.setIfInBounds_toArray, List.set_cons_zero, List.set_cons_succ]
                refine wpAnyH_take (i := 3) (v := ?_) rfl (by kernel_rfl) (by kernel_rfl) (by kernel_rfl) (fun _ _ _ h => h) (Or.inl ⟨by rfl, ?_⟩) hHeld ?_
                rotate_left
                · intro w' hSw; go_simp; try with_reducible rfl
                simp only [List.getElem_toArray, List.getElem_cons_succ, List.getElem_cons_zero, Act.put, List.setIfInBounds_toArray, List.set_cons_zero, List.set_cons_succ]
                refine wpAnyH_take (i := 4) (v := ?_) rfl (by kernel_rfl) (by kernel_rfl) (by kernel_rfl) (fun _ _ _ h => h) (Or.inl ⟨by rfl, ?_⟩) hHeld ?_
                rotate_left
                · intro w' hSw; have cs0 := (hSw.cell (p := ⟨b, off + i * 7, none⟩) LGB.out).trans LG0.out; have cs1 := (hSw.cell (p := ⟨b, off + i * 7 + 1, none⟩) LGB.out).trans LG1.out; have cs2 := (hSw.cell (p := ⟨b, off + i * 7 + 2, none⟩) LGB.out).trans LG2.out; have cs3 := (hSw.cell (p := ⟨b, off + i * 7 + 3, none⟩) LGB.out).trans LG3.out; have cs4 := (hSw.cell (p := ⟨b, off + i * 7 + 4, none⟩) LGB.out).trans LG4.out; have cs5 := (hSw.cell (p := ⟨b, off + i * 7 + 5, none⟩) LGB.out).trans LG5.out; have cs6 := (hSw.cell (p := ⟨b, off + i * 7 + 6, none⟩) LGB.out).trans LG6.out; go_simp; try with_reducible rfl
                simp only [List.getElem_toArray, List.getElem_cons_succ, List.getElem_cons_zero, Act.put, List.setIfInBounds_toArray, List.set_cons_zero, List.set_cons_succ]
                refine wpAnyH_take (i := 5) (v := ?_) rfl (by kernel_rfl) (by kernel_rfl) (by kernel_rfl) (fun _ _ _ h => h) (Or.inl ⟨by rfl, ?_⟩) hHeld ?_
                rotate_left
                · intro w' hSw; go_simp; try with_reducible rfl
                simp only [List.getElem_toArray, List.getElem_cons_succ, List.getElem_cons_zero, Act.put, List.setIfInBounds_toArray, List.set_cons_zero, List.set_cons_succ]
                refine wpAnyH_take (i := 6) (v := ?_) rfl (by kernel_rfl) (by kernel_rfl) (by kernel_rfl) (fun _ _ _ h => h) (Or.inl ⟨by rfl, ?_⟩) hHeld ?_
                rotate_left
                · intro w' hSw; obtain ⟨cr0, cr1, cr2, cr3, cr4, cr5⟩ := cell6_of ((hSw.block _ (heap_lt XB.out)).trans XB.out); go_simp; try with_reducible rfl
                simp only [List.getElem_toArray, List.getElem_cons_succ, List.getElem_cons_zero, Act.put, List.setIfInBounds_toArray, List.set_cons_zero, List.set_cons_succ]
                refine wpAnyH_take (i := 7) (v := ?_) rfl (by kernel_rfl) (by kernel_rfl) (by kernel_rfl) (fun _ _ _ h => h) (Or.inl ⟨by rfl, ?_⟩) hHeld ?_
                rotate_left
                · intro w' hSw; go_simp; try with_reducible rfl
                simp only [List.getElem_toArray, List.getElem_cons_succ, List.getElem_cons_zero, Act.put, List.setIfInBounds_toArray, List.set_cons_zero, List.set_cons_succ]
                refine wpAnyH_take (i := 8) (v := ?_) rfl (by kernel_rfl) (by kernel_rfl) (by kernel_rfl) (fun _ _ _ h => h) (Or.inl ⟨by rfl, ?_⟩) hHeld ?_
                rotate_left
                · intro w' hSw; go_simp; try with_reducible rfl
                simp only [List.getElem_toArray, List.getElem_cons_succ, List.getElem_cons_zero, Act.put, List.setIfInBounds_toArray, List.set_cons_zero, List.set_cons_succ]
                refine wpAnyH_take (i := 9) (v := ?_) rfl (by kernel_rfl) (by kernel_rfl) (by kernel_rfl) (fun _ _ _ h => h) (Or.inl ⟨by rfl, ?_⟩) hHeld ?_
                rotate_left
                · intro w' hSw; have ct0 := (hSw.cell (p := ⟨b', off' + i * 7, none⟩) LHB.out).trans LH0.out; have ct1 := (hSw.cell (p := ⟨b', off' + i * 7 + 1, none⟩) LHB.out).trans LH1.out; have ct2 := (hSw.cell (p := ⟨b', off' + i * 7 + 2, none⟩) LHB.out).trans LH2.out; have ct3 := (hSw.cell (p := ⟨b', off' + i * 7 + 3, none⟩) LHB.out).trans LH3.out; have ct4 := (hSw.cell (p := ⟨b', off' + i * 7 + 4, none⟩) LHB.out).trans LH4.out; have ct5 := (hSw.cell (p := ⟨b', off' + i * 7 + 5, none⟩) LHB.out).trans LH5.out; have ct6 := (hSw.cell (p := ⟨b', off' + i * 7 + 6, none⟩) LHB.out).trans LH6.out; go_simp; try with_reducible rfl
                simp only [List.getElem_toArray, List.getElem_cons_succ, List.getElem_cons_zero, Act.put, List.setIfInBounds_toArray, List.set_cons_zero, List.set_cons_succ]
                refine wpAnyH_ready (rs := [10]) (by kernel_rfl) (by simp) ?_
                refine AllReadyH.cons rfl (fun K hK => ?_) AllReadyH.nil
                go_simp
                refine (rsameroute_any _ _ R S wr.drew (SV1.out.below (Below.refl wr.heap.size wr).drew) (SV2.out.below (Below.refl wr.heap.size wr).drew)).mono ?_
                rintro e w5 ⟨rfl, b5⟩
                rw [hq5]
                have B5 : Hid (Below wr.heap.size wr w5) := Lib.hid ((Below.refl wr.heap.size wr).drew.trans b5)
                clear b5
                try go_wp2_with fail
                refine hK.out _ _ ?_ (fun hHeld => ?_)
                · exact B5.out
                clear hK K
                try simp only [List.getElem_toArray, List.getElem_cons_succ, List.getElem_cons_zero, Act.put, List.setIfInBounds_toArray, List.set_cons_zero, List.set_cons_succ]
                refine wpAnyH_take (i := 11) (v := ?_) rfl (by kernel_rfl) (by kernel_rfl) (by kernel_rfl) (fun _ _ _ h => h) (Or.inl ⟨by rfl, ?_⟩) hHeld ?_
                rotate_left
                · intro w' hSw; go_simp; try with_reducible rfl
                simp only [List.getElem_toArray, List.getElem_cons_succ, List.getElem_cons_zero, Act.put, List.setIfInBounds_toArray, List.set_cons_zero, List.set_cons_succ]
                refine wpAnyH_done (by kernel_rfl) ?_ _
                have BY : Hid (Below w.heap.size w w5) := Lib.hid (BZ.out.trans (B5.out.mono BZ.out.size))
                go_wp2_with fail
                go_ret
                exact ⟨by rw [HF.out]; rfl, BY.out⟩
            · obtain rfl : an5 = i := by omega
              have hlt2 : ¬ (an5 : Int) < an5 := by omega
              have HF : Hid (eqB p q = true) := Lib.hid (eqB_true (pl_eq.2 ⟨TWO.out.1, TWO.out.2, HSEC.out, HPTS.out, HSIG.out, list_ext (by have := HN5.out; omega) fun j h1 h2 => HALL.out j (by have := HN5.out; omega) h1 h2⟩))
              go_wp2_with fail
              go_ret
              exact ⟨by rw [HF.out]; rfl, BZ.out⟩
end Go.Proofs.Ythlolpflgninjaa
