/-
  PlanFewer: the walk, given the program's contracts.
  Conditions: none.
-/
import Derived.Test.YthlolpflgninjaaPlnAlive8
import Derived.Test.YthlolpflgninjaaPlnFewW
import Derived.Test.YthlolpflgninjaaAppendsB
import Derived.BigQuiet
set_option linter.unusedVariables false
set_option linter.unusedSimpArgs false
set_option maxRecDepth 100000
namespace Go.Proofs.Ythlolpflgninjaa
open Go.RowKit

set_option maxHeartbeats 16000000 in
theorem walk_plan_fewer (hp : PlanSaid) (v : Value) (p : Pl) (x : Int) (hx0 : 0 ≤ x) (hx1 : x < 256) (w : World) (h : PlanV w w.heap.size v p) :
    Calls Try.prog 7 #[v, .int .u8 x] w fun e w' => e = .returned (.bool true) ∧ Below w.heap.size w w' := by
  obtain ⟨y2, y3, y4, y5, rfl, hin⟩ := h
  have HIN0 := Lib.hid hin
  obtain ⟨A2, c2, rfl, hcl2, hcm2⟩ := hin.secs.slice
  obtain ⟨A3, c3, rfl, hcl3, hcm3⟩ := hin.pts.slice
  obtain ⟨A4, c4, rfl, hcl4, hcm4⟩ := hin.sigs.slice
  obtain ⟨A5, c5, rfl, hcl5, hcm5⟩ := hin.routes.slice
  unfold maxLen at hcm2 hcm3 hcm4 hcm5
  obtain ⟨n2, hn2⟩ : ∃ n, n = p.secs.length := ⟨_, rfl⟩
  obtain ⟨n3, hn3⟩ : ∃ n, n = p.pts.length := ⟨_, rfl⟩
  obtain ⟨n4, hn4⟩ : ∃ n, n = p.sigs.length := ⟨_, rfl⟩
  obtain ⟨n5, hn5⟩ : ∃ n, n = p.routes.length := ⟨_, rfl⟩
  have hm2 : n2 ≤ 9223372036854775807 := by omega
  have hm3 : n3 ≤ 9223372036854775807 := by omega
  have hm4 : n4 ≤ 9223372036854775807 := by omega
  have hm5 : n5 ≤ 9223372036854775807 := by omega
  have HCP : Hid (n2 ≤ c2 ∧ n3 ≤ c3 ∧ n4 ≤ c4 ∧ n5 ≤ c5) := Lib.hid (by omega)
  have HIN : Hid (PlIn w w.heap.size (.slice A2 n2 c2) (.slice A3 n3 c3) (.slice A4 n4 c4) (.slice A5 n5 c5) p) := Lib.hid (by rw [hn2, hn3, hn4, hn5]; exact HIN0.out)
  have HN : Hid (n2 = p.secs.length ∧ n3 = p.pts.length ∧ n4 = p.sigs.length ∧ n5 = p.routes.length) := Lib.hid ⟨hn2, hn3, hn4, hn5⟩
  rw [← hn2, ← hn3, ← hn4, ← hn5]
  clear hn2 hn3 hn4 hn5 HIN0 hin hcl2 hcm2 hcl3 hcm3 hcl4 hcm4 hcl5 hcm5
  have hq0 := heap_alloc_self w (.cells #[.int .i64 p.ver, .int .i64 p.par, .slice A2 n2 c2, .slice A3 n3 c3, .slice A4 n4 c4, .slice A5 n5 c5] 30)
  have hqb := below_new w (.cells #[.int .i64 p.ver, .int .i64 p.par, .slice A2 n2 c2, .slice A3 n3 c3, .slice A4 n4 c4, .slice A5 n5 c5] 30)
  go_enter Try.func7, Try.ntmps7
  go_upto_region 1 with fail
  generalize w.alloc (.cells #[.int .i64 p.ver, .int .i64 p.par, .slice A2 n2 c2, .slice A3 n3 c3, .slice A4 n4 c4, .slice A5 n5 c5] 30) = q at hq0 hqb ⊢
  have XP := Lib.hid hq0
  have BQ := Lib.hid hqb
  clear hq0 hqb
  go_wp2_with fail
  refine (alive8 hp q).mono ?_
  rintro e w1 ⟨rfl, b1⟩
  have tBQ := BQ.out.trans (b1.mono BQ.out.size)
  have tXP := (b1.block _ (heap_lt XP.out)).trans XP.out
  clear BQ XP b1
  have BQ := Lib.hid tBQ
  have XP := Lib.hid tXP
  clear tBQ tXP
  have HI := Lib.hid ((HIN.out.below BQ.out).more BQ.out.size)
  obtain ⟨k0, k1, k2, k3, k4, k5⟩ := cell6_of XP.out
  go_wp2_with fail
  refine (rgreat8_any _ p w1 ⟨_, _, _, _, rfl, HI.out⟩).mono ?_
  rintro e w2 ⟨⟨g, rfl, hg⟩, b1⟩
  clear k0 k1 k2 k3 k4 k5
  have tBQ := BQ.out.trans (b1.mono BQ.out.size)
  have tXP := (b1.block _ (heap_lt XP.out)).trans XP.out
  have tHI := (HI.out.below b1).more b1.size
  clear BQ XP HI b1
  have BQ := Lib.hid tBQ
  have XP := Lib.hid tXP
  have HI := Lib.hid tHI
  clear tBQ tXP tHI
  cases g with
  | true =>
    go_wp2_with fail
    go_ret
    exact ⟨rfl, BQ.out⟩
  | false =>
  have FP := Lib.hid (hg rfl)
  clear hg
  obtain ⟨k0, k1, k2, k3, k4, k5⟩ := cell6_of XP.out
  go_wp2_with fail
  refine (hp.check _ p w2 ⟨_, _, _, _, rfl, HI.out⟩).mono ?_
  rintro e w3 ⟨rfl, b1⟩
  clear k0 k1 k2 k3 k4 k5
  have tBQ := BQ.out.trans (b1.mono BQ.out.size)
  have tXP := (b1.block _ (heap_lt XP.out)).trans XP.out
  have tHI := (HI.out.below b1).more b1.size
  clear BQ XP HI b1
  have BQ := Lib.hid tBQ
  have XP := Lib.hid tXP
  have HI := Lib.hid tHI
  clear tBQ tXP tHI
  have CB : Hid (planMay p = false → chk8 p = 8) := Lib.hid (fun h => by rw [chk8, h]; rfl)
  have CG : Hid (planMay p = true → chk8 p = 0) := Lib.hid (fun h => by rw [chk8, h]; rfl)
  generalize chk8 p = ck at CB CG ⊢
  cases hm : planMay p with
  | false =>
    obtain rfl := CB.out hm
    clear hm
    go_wp2_with fail
    go_ret
    exact ⟨rfl, BQ.out⟩
  | true =>
  obtain rfl := CG.out hm
  have PM := Lib.hid (planMay_iff.1 hm)
  clear hm CB CG
  have HX01 : Hid (0 ≤ x ∧ x < 256) := Lib.hid ⟨hx0, hx1⟩
  clear hx0 hx1
  obtain ⟨k0, k1, k2, k3, k4, k5⟩ := cell6_of XP.out
  go_wp2_with fail
  refine (rtwin8_any _ p w3 ⟨_, _, _, _, rfl, HI.out⟩ FP.out).mono ?_
  rintro e w4 ⟨u2, u3, u4, u5, rfl, ho, b1⟩
  obtain ⟨U2, f2, rfl⟩ := ho.secs.slice
  obtain ⟨U3, f3, rfl⟩ := ho.pts.slice
  obtain ⟨U4, f4, rfl⟩ := ho.sigs.slice
  obtain ⟨U5, f5, rfl⟩ := ho.routes.slice
  rw [← HN.out.1, ← HN.out.2.1, ← HN.out.2.2.1, ← HN.out.2.2.2] at ho ⊢
  obtain ⟨lo, hlo⟩ : ∃ lo, lo = w3.heap.size := ⟨_, rfl⟩
  rw [← hlo] at ho
  have HO := Lib.hid ho
  have LW : Hid (w.heap.size ≤ lo ∧ lo ≤ w4.heap.size) := Lib.hid (by rw [hlo]; exact ⟨BQ.out.size, b1.size⟩)
  have tBQ := BQ.out.trans (b1.mono BQ.out.size)
  clear k0 k1 k2 k3 k4 k5 XP HI BQ ho b1 hlo
  have BQ := Lib.hid tBQ
  clear tBQ
  obtain ⟨q4, hq⟩ : ∃ x, x = w4.alloc (.cells #[.int .i64 p.ver, .int .i64 p.par, .slice U2 n2 f2, .slice U3 n3 f3, .slice U4 n4 f4, .slice U5 n5 f5] 30) := ⟨_, rfl⟩
  have x1 := heap_alloc_self w4 (.cells #[.int .i64 p.ver, .int .i64 p.par, .slice U2 n2 f2, .slice U3 n3 f3, .slice U4 n4 f4, .slice U5 n5 f5] 30)
  have b1 := below_new w4 (.cells #[.int .i64 p.ver, .int .i64 p.par, .slice U2 n2 f2, .slice U3 n3 f3, .slice U4 n4 f4, .slice U5 n5 f5] 30)
  rw [← hq] at x1 b1
  go_upto_region 5 with fail
  rw [← hq]
  have HC0 : Hid (CopyAt q4 lo w4.heap.size #[.int .i64 p.ver, .int .i64 p.par, .slice U2 n2 f2, .slice U3 n3 f3, .slice U4 n4 f4, .slice U5 n5 f5] (.slice U2 n2 f2) (.slice U3 n3 f3) (.slice U4 n4 f4) (.slice U5 n5 f5) p p.sigs p.routes) := Lib.hid ⟨x1, (HO.out.below b1).secs, (HO.out.below b1).pts, (HO.out.below b1).sigs, (HO.out.below b1).routes⟩
  have tBQ := BQ.out.trans (b1.mono BQ.out.size)
  clear hq x1 b1 BQ HO
  have BQ := Lib.hid tBQ
  clear tBQ
  generalize w4.heap.size = p6 at HC0 LW ⊢
  obtain ⟨k0, k1, k2, k3, k4, k5⟩ := cell6_of HC0.out.x6
  have L4 : Hid (n4 ≤ 40 ∧ n5 ≤ 40) := Lib.hid (by have := FP.out.sigs; have := FP.out.routes; have := HN.out; omega)
  by_cases hnz : n5 = 0
  · have hd : ¬ (0 : Int) < n5 := by omega
    obtain ⟨kk, hkk⟩ : ∃ k : Nat, k = 0 := ⟨_, rfl⟩
    obtain ⟨rs, hrs⟩ : ∃ r, r = p.routes := ⟨_, rfl⟩
    have HRS : Hid (rs = p.routes.eraseIdx kk) := Lib.hid (by
      have : p.routes = [] := List.eq_nil_of_length_eq_zero (by have := HN.out; omega)
      rw [hrs, this]; rfl)
    have HNR : Hid (n5 = rs.length) := Lib.hid (by rw [hrs]; exact HN.out.2.2.2)
    have HNL : Hid (n5 ≤ 40) := Lib.hid (by have := L4.out; omega)
    rw [← hrs] at HC0
    have HC := HC0
    clear HC0 hkk hrs hnz
    have hn4 : n4 ≤ 9223372036854775807 := by have := L4.out; omega
    have hnr : n5 ≤ 9223372036854775807 := by have := L4.out; have := HNL.out; omega
    clear k0 k1 k2 k3 k4 k5
    obtain ⟨k0, k1, k2, k3, k4, k5⟩ := cell6_of HC.out.x6
    go_wp2_with fail
    clear k0 k1 k2 k3 k4 k5 hd
    go_loopw [8, 9] (fun s8 s9 wr => ∃ i : Nat, i ≤ n4 ∧ s9 = .int .i64 i ∧ SigsOwn wr q4.heap.size s8 ((p.sigs.take i).filter (namedB rs)) ∧ Below q4.heap.size q4 wr) (fun _ s9 _ => n4 - (intOf s9).toNat)
    case atStart => exact ⟨0, by omega, by go_num, by rw [List.take_zero]; exact ListOwn.nil_, Below.refl _ _⟩
    case round =>
      obtain ⟨i, hi, rfl, hso, hb⟩ := hrel
      have HW := Lib.hid (HC.out.below hb)
      have SO := Lib.hid hso
      have BV := Lib.hid hb
      clear hb
      obtain ⟨k0, k1, k2, k3, k4, k5⟩ := cell6_of HW.out.x6
      by_cases hlt : i < n4
      · have hlt' : (i : Int) < n4 := by omega
        have hir : i < p.sigs.length := by rw [← HN.out.2.2.1]; exact hlt
        obtain ⟨bk, off, rfl, hbk, hc0, hc1, hc2⟩ := ((HW.out.sigs.in_ sigR_cells)).at hir
        obtain ⟨a, b, c_, hx⟩ : ∃ a b c, p.sigs[i] = (a, b, c) := ⟨_, _, _, rfl⟩
        have HX := Lib.hid hx
        rw [hx] at hc0 hc1 hc2
        have hg0 : wr.cell? ⟨bk, off + i * 3, none⟩ = some (.int .i64 a) := hc0
        have hg1 : wr.cell? ⟨bk, off + i * 3 + 1, none⟩ = some (.int .i64 b) := hc1
        have hg2 : wr.cell? ⟨bk, off + i * 3 + 2, none⟩ = some (.int .i64 c_) := hc2
        clear hc0 hc1 hc2 hx hbk
        obtain ⟨A8, c8, rfl⟩ := hso.slice
        obtain ⟨fl, hfl⟩ : ∃ x, x = (p.sigs.take i).filter (namedB rs) := ⟨_, rfl⟩
        rw [← hfl] at SO ⊢
        have HFL := Lib.hid hfl
        have FLN : Hid (fl.length ≤ 40) := Lib.hid (by
          rw [HFL.out]
          have h1 := List.length_filter_le (namedB rs) (p.sigs.take i)
          have h2 := List.length_take_le i p.sigs
          have := L4.out
          omega)
        have HFS : Hid ((p.sigs.take (i + 1)).filter (namedB rs) = fl ++ if namedB rs (a, b, c_) then [(a, b, c_)] else []) := Lib.hid (by rw [filter_take hir, HX.out, HFL.out])
        clear hfl hso
        go_wp2_with fail
        clear k0 k1 k2 k3 k4 k5
        go_loopw [10, 11] (fun s10 s11 ws => ∃ k : Nat, k ≤ n5 ∧ s11 = .int .i64 k ∧ s10 = .bool (namedB (rs.take k) (a, b, c_)) ∧ Below wr.heap.size wr ws) (fun _ s11 _ => n5 - (intOf s11).toNat)
        case atStart => exact ⟨0, by omega, by go_num, by rw [List.take_zero]; rfl, Below.refl _ _⟩
        case round =>
          obtain ⟨k, hk, rfl, hnb, hb2⟩ := hrel
          have YW := Lib.hid (HW.out.below hb2)
          have hg0' := (hb2.cell (cell_lt hg0)).trans hg0
          obtain ⟨nb, hnb2⟩ : ∃ x, x = namedB (rs.take k) (a, b, c_) := ⟨_, rfl⟩
          rw [← hnb2] at hnb
          subst hnb
          have NBE := Lib.hid hnb2
          clear hnb2
          obtain ⟨k0, k1, k2, k3, k4, k5⟩ := cell6_of YW.out.x6
          by_cases hl2 : k < n5
          · exfalso; omega
          · obtain rfl : n5 = k := by omega
            have hl2' : ¬ (n5 : Int) < n5 := by omega
            have NF : Hid (nb = namedB rs (a, b, c_)) := Lib.hid (by rw [NBE.out, HNR.out, List.take_length])
            have SI := Lib.hid (SO.out.below sigR hb2)
            have BI := Lib.hid (BV.out.trans (hb2.mono BV.out.size))
            have hg1' := (hb2.cell (cell_lt hg1)).trans hg1
            have hg2' := (hb2.cell (cell_lt hg2)).trans hg2
            clear hb2 hg0 hg1 hg2
            cases nb with
            | false =>
              have HT1 : Hid ((p.sigs.take (i + 1)).filter (namedB rs) = fl) := Lib.hid (by rw [HFS.out, ← NF.out]; simp)
              go_wp2_with fail
              go_roundw
              case measure => simp [intOf]; omega
              case rel => exact ⟨i + 1, by omega, by go_num, by rw [HT1.out]; exact SI.out, BI.out⟩
            | true =>
              have HT1 : Hid ((p.sigs.take (i + 1)).filter (namedB rs) = fl ++ [(a, b, c_)]) := Lib.hid (by rw [HFS.out, ← NF.out]; simp)
              obtain ⟨i0, hii, hz0, hz1, hz2⟩ := info_parts infoSigI
              have I0 := Lib.hid hii
              have I1 := Lib.hid hz0
              have I2 := Lib.hid hz1
              have I3 := Lib.hid hz2
              obtain ⟨yss, hown, hyl, hm, hys, hyr⟩ := SI.out
              obtain ⟨L, hL⟩ : ∃ x, x = fl.length := ⟨_, rfl⟩
              have HL := Lib.hid hL
              have O : Hid (wr.ownsRow q4.heap.size 49 3 (.slice A8 L c8) L yss.flatten) := Lib.hid (by rw [HL.out]; exact hown)
              have YL := Lib.hid hyl
              have YS := Lib.hid hys
              have YR := Lib.hid hyr
              rw [← hL]
              clear hii hz0 hz1 hz2 hown hyl hm hys hyr hL
              go_wp2_with ((with_reducible show wpList _ _ _ (⟨some 101, _, _, _, _, _⟩ :: _) _ _); refine wpList_append_list rfl (.tmp 94) (.tmp 100) _ rfl Try.underlying27 I0.out I1.out rfl I2.out (by decide) I3.out (by decide) rfl (O.out.alloc _) (m := 1) rfl (news := [.int .i64 a, .int .i64 b, .int .i64 c_]) rfl (fun h => by cases h) (fun a ha j u hj => by cases ha; rw [Addr.add_lit, Nat.zero_add, World.cell?_alloc_new]; simpa using hj) (by simp [Value.oneCell']) (by have := FLN.out; have := HL.out; omega) (by have := BI.out.size; simp; omega) ?_; intro v4 w9 hown4 hgrow4)
              have S4 : Hid (SigsOwn w9 q4.heap.size v4 (fl ++ [(a, b, c_)])) := Lib.hid (ListOwn.snoc (w1 := wr) (x := (a, b, c_)) (ys := [.int .i64 a, .int .i64 b, .int .i64 c_]) sigR (fun _ h _ _ => h) (by rw [← HL.out]; exact O.out) YL.out YS.out rfl (by have := FLN.out; unfold maxLen; omega) YR.out (Below.refl _ _) ⟨rfl, rfl, rfl⟩ (by rw [← HL.out]; exact hown4) hgrow4)
              have B9 := Lib.hid ((BI.out.alloc BI.out.size _).grown hgrow4 (by have := BI.out.size; simp; omega) (own_ge O.out))
              clear hown4 hgrow4
              go_roundw
              case measure => simp [intOf]; omega
              case rel => exact ⟨i + 1, by omega, by go_num, by rw [HT1.out]; exact S4.out, B9.out⟩
      · obtain rfl : n4 = i := by omega
        have hlt' : ¬ (n4 : Int) < n4 := by omega
        obtain ⟨A8, c8, rfl⟩ := hso.slice
        have SL : Hid (SigsOwn wr q4.heap.size (.slice A8 ((p.sigs.take n4).filter (namedB rs)).length c8) (p.sigs.filter (namedB rs))) := Lib.hid (by
          have := hso
          rw [show p.sigs.take n4 = p.sigs from List.take_of_length_le (by have := HN.out; omega)] at this ⊢
          exact this)
        generalize ((p.sigs.take n4).filter (namedB rs)).length = L at SL ⊢
        have tBY := below_set (BQ.out.trans (BV.out.mono BQ.out.size)) (show w.heap.size ≤ p6 by have := LW.out; omega) 4 (.slice A8 L c8)
        have tHY : CopyAt (wr.setCell ⟨p6, 4, none⟩ (.slice A8 L c8)) lo p6 #[.int .i64 p.ver, .int .i64 p.par, .slice U2 n2 f2, .slice U3 n3 f3, .slice A8 L c8, .slice U5 n5 f5] (.slice U2 n2 f2) (.slice U3 n3 f3) (.slice A8 L c8) (.slice U5 n5 f5) p (p.sigs.filter (namedB rs)) rs := (HW.out.left (SL.out.mono (show lo ≤ q4.heap.size by have := LW.out; have := heap_lt HC.out.x6; omega))).set 4 (.slice A8 L c8)
        have fz := frozen2_of HW.out.x6 4
        clear hso SO BV
        go_upto_region 20 with fail
        generalize wr.setCell ⟨p6, 4, none⟩ (.slice A8 L c8) = wy at tBY tHY ⊢
        have BY := Lib.hid tBY
        have HY := Lib.hid tHY
        clear tBY tHY fz k0 k1 k2 k3 k4 k5 HW SL HC BQ
        obtain ⟨k0, k1, k2, k3, k4, k5⟩ := cell6_of HY.out.x6
        by_cases hv : p.ver < 2147483647
        · have hvd : decide (p.ver < 2147483647) = true := decide_eq_true hv
          have HV := Lib.hid hv
          have hw1 : IntKind.i64.wrap (p.ver + 1) = p.ver + 1 := wrap_id (by have := PM.out.ver; omega) (by omega)
          have tBY := below_set BY.out (show w.heap.size ≤ p6 by have := LW.out; omega) 1 (.int .i64 p.ver)
          have tHY : CopyAt (wy.setCell ⟨p6, 1, none⟩ (.int .i64 p.ver)) lo p6 #[.int .i64 p.ver, .int .i64 p.ver, .slice U2 n2 f2, .slice U3 n3 f3, .slice A8 L c8, .slice U5 n5 f5] (.slice U2 n2 f2) (.slice U3 n3 f3) (.slice A8 L c8) (.slice U5 n5 f5) p (p.sigs.filter (namedB rs)) rs := HY.out.set 1 (.int .i64 p.ver)
          have fz := frozen2_of HY.out.x6 1
          go_upto_region 22 with fail
          generalize wy.setCell ⟨p6, 1, none⟩ (.int .i64 p.ver) = wx at tBY tHY ⊢
          clear BY HY fz k0 k1 k2 k3 k4 k5 hv hvd
          have BY := Lib.hid tBY
          have HY := Lib.hid tHY
          clear tBY tHY
          obtain ⟨k0, k1, k2, k3, k4, k5⟩ := cell6_of HY.out.x6
          have tBY := below_set BY.out (show w.heap.size ≤ p6 by have := LW.out; omega) 0 (.int .i64 (p.ver + 1))
          have tHY : CopyAt (wx.setCell ⟨p6, 0, none⟩ (.int .i64 (p.ver + 1))) lo p6 #[.int .i64 (p.ver + 1), .int .i64 p.ver, .slice U2 n2 f2, .slice U3 n3 f3, .slice A8 L c8, .slice U5 n5 f5] (.slice U2 n2 f2) (.slice U3 n3 f3) (.slice A8 L c8) (.slice U5 n5 f5) p (p.sigs.filter (namedB rs)) rs := HY.out.set 0 (.int .i64 (p.ver + 1))
          have fz := frozen2_of HY.out.x6 0
          go_upto_region 23 with fail
          generalize wx.setCell ⟨p6, 0, none⟩ (.int .i64 (p.ver + 1)) = wv at tBY tHY ⊢
          clear BY HY fz k0 k1 k2 k3 k4 k5 hw1
          have BY := Lib.hid tBY
          have HY := Lib.hid tHY
          clear tBY tHY
          have PE : Hid (fewP p kk = ⟨p.ver + 1, p.ver, p.secs, p.pts, p.sigs.filter (namedB rs), rs⟩) := Lib.hid (by rw [fewP, if_pos HV.out, if_pos HV.out, ← HRS.out])
          have CK0 : Hid (chk8 ⟨p.ver + 1, p.ver, p.secs, p.pts, p.sigs.filter (namedB rs), rs⟩ = 0) := Lib.hid (by rw [← PE.out, chk8, few_chk (planMay_true PM.out) kk]; rfl)
          obtain ⟨k0, k1, k2, k3, k4, k5⟩ := cell6_of HY.out.x6
          go_wp2_with fail
          refine (hp.check _ ⟨p.ver + 1, p.ver, p.secs, p.pts, p.sigs.filter (namedB rs), rs⟩ _ ⟨_, _, _, _, rfl, ⟨HY.out.secs.in_, HY.out.pts.in_ joinR_cells, HY.out.sigs.in_ sigR_cells, HY.out.routes.in_⟩⟩).mono ?_
          rintro e wf ⟨rfl, bf⟩
          have BF := Lib.hid (BY.out.trans (bf.mono BY.out.size))
          clear bf k0 k1 k2 k3 k4 k5
          rw [CK0.out]
          go_wp2_with fail
          go_ret
          exact ⟨rfl, BF.out⟩
        · have hvd : decide (p.ver < 2147483647) = false := decide_eq_false hv
          have HV := Lib.hid hv
          clear hv
          go_upto_region 23 with fail
          clear hvd k0 k1 k2 k3 k4 k5
          have PE : Hid (fewP p kk = ⟨p.ver, p.par, p.secs, p.pts, p.sigs.filter (namedB rs), rs⟩) := Lib.hid (by rw [fewP, if_neg HV.out, if_neg HV.out, ← HRS.out])
          have CK0 : Hid (chk8 ⟨p.ver, p.par, p.secs, p.pts, p.sigs.filter (namedB rs), rs⟩ = 0) := Lib.hid (by rw [← PE.out, chk8, few_chk (planMay_true PM.out) kk]; rfl)
          obtain ⟨k0, k1, k2, k3, k4, k5⟩ := cell6_of HY.out.x6
          go_wp2_with fail
          refine (hp.check _ ⟨p.ver, p.par, p.secs, p.pts, p.sigs.filter (namedB rs), rs⟩ _ ⟨_, _, _, _, rfl, ⟨HY.out.secs.in_, HY.out.pts.in_ joinR_cells, HY.out.sigs.in_ sigR_cells, HY.out.routes.in_⟩⟩).mono ?_
          rintro e wf ⟨rfl, bf⟩
          have BF := Lib.hid (BY.out.trans (bf.mono BY.out.size))
          clear bf k0 k1 k2 k3 k4 k5
          rw [CK0.out]
          go_wp2_with fail
          go_ret
          exact ⟨rfl, BF.out⟩
  have hd : (0 : Int) < n5 := by omega
  have hn0 : ((n5 : Int) == 0) = false := by simpa using hnz
  have hn1 : ¬ (n5 : Int) = 0 := by omega
  obtain ⟨kk, hkr, hkn⟩ : ∃ r : Nat, x.tmod (n5 : Int) = (r : Int) ∧ r < n5 := by
    obtain ⟨X, rfl⟩ : ∃ X : Nat, x = (X : Int) := ⟨x.toNat, by have := HX01.out; omega⟩
    exact ⟨X % n5, rfl, Nat.mod_lt _ (by omega)⟩
  obtain ⟨K1, hK1⟩ : ∃ x, x = kk + 1 := ⟨_, rfl⟩
  have KB : Hid (K1 = kk + 1 ∧ kk < n5) := Lib.hid ⟨hK1, hkn⟩
  have hkk1 : (kk : Int) ≤ K1 := by omega
  obtain ⟨g, yss, hA, hpt⟩ := routes_parted (HC0.out.below (Below.refl _ q4).drew).routes (k := kk) (by have := HN.out; omega)
  subst hA
  have PT := Lib.hid hpt
  have hcap := hpt.cap
  have hnf : n5 ≤ f5 := by have := HN.out; omega
  clear hpt
  have hx2 : IntKind.i64.wrap x = x := wrap_id (by have := HX01.out; omega) (by have := HX01.out; omega)
  have hwk : IntKind.i64.wrap ((kk : Int) + 1) = (K1 : Int) := by rw [wrap_id (by omega) (by unfold maxLen at hcap; omega)]; omega
  have hb5 : n5 ≤ 9223372036854775807 := by have := L4.out; omega
  have hkc : (kk : Int) ≤ f5 := by omega
  have hkc2 : kk ≤ f5 := by omega
  have hk1n : (K1 : Int) ≤ n5 := by omega
  have hwkk : IntKind.i64.wrap (kk : Int) = (kk : Int) := wrap_id (by omega) (by omega)
  obtain ⟨i0, hii, hz0, hz1, hz2⟩ := info_parts infoRouteI
  have I0 := Lib.hid hii
  have I1 := Lib.hid hz0
  have I2 := Lib.hid hz1
  have I3 := Lib.hid hz2
  clear hii hz0 hz1 hz2
  have HNF := Lib.hid hnf
  have HKL : Hid (kk < p.routes.length) := Lib.hid (by rw [← HN.out.2.2.2]; exact hkn)
  clear hK1 hcap hnf
  go_upto_region 7 with fail
  clear k0 k1 k2 k3 k4 k5 hd hn0 hn1 hnz
  by_cases hce : f5 = K1
  · have CE : Hid (n5 = K1) := Lib.hid (by have := HNF.out; omega)
    obtain rfl : K1 = f5 := hce.symm
    refine wp_region_end (S := fun v' => v'.heap[p6]? = q4.heap[p6]?) 11 (by kernel_rfl) rfl (fun hHeld => ?_)
    refine wpAnyE_take [1, 3, 9, 11] (i := 0) (v := ?_) rfl (by kernel_rfl) (by kernel_rfl) (by kernel_rfl) (fun _ _ _ h => h) (by kernel_rfl) (by kernel_rfl) (by kernel_rfl) (Or.inl ⟨by rfl, ?_⟩) hHeld ?_
    rotate_left
    · intro w' hSw; go_simp; try with_reducible rfl
    simp only [List.getElem_toArray, List.getElem_cons_succ, List.getElem_cons_zero, Act.put, List.setIfInBounds_toArray, List.set_cons_zero, List.set_cons_succ]
    refine wpAnyE_take [3, 9, 11] (i := 1) (v := ?_) rfl (by kernel_rfl) (by kernel_rfl) (by kernel_rfl) (fun _ _ _ h => h) (by kernel_rfl) (by kernel_rfl) (by kernel_rfl) (Or.inl ⟨by rfl, ?_⟩) hHeld ?_
    rotate_left
    · intro w' hSw; obtain ⟨cv0, cv1, cv2, cv3, cv4, cv5⟩ := cell6_of (hSw.trans HC0.out.x6); go_simp; try with_reducible rfl
    simp only [List.getElem_toArray, List.getElem_cons_succ, List.getElem_cons_zero, Act.put, List.setIfInBounds_toArray, List.set_cons_zero, List.set_cons_succ]
    refine wpAnyE_take [3, 9, 11] (i := 2) (v := ?_) rfl (by kernel_rfl) (by kernel_rfl) (by kernel_rfl) (fun _ _ _ h => h) (by kernel_rfl) (by kernel_rfl) (by kernel_rfl) (Or.inl ⟨by rfl, ?_⟩) hHeld ?_
    rotate_left
    · intro w' hSw; go_simp; try with_reducible rfl
    simp only [List.getElem_toArray, List.getElem_cons_succ, List.getElem_cons_zero, Act.put, List.setIfInBounds_toArray, List.set_cons_zero, List.set_cons_succ]
    refine wpAnyE_take [9, 11] (i := 3) (v := ?_) rfl (by kernel_rfl) (by kernel_rfl) (by kernel_rfl) (fun _ _ _ h => h) (by kernel_rfl) (by kernel_rfl) (by kernel_rfl) (Or.inl ⟨by rfl, ?_⟩) hHeld ?_
    rotate_left
    · intro w' hSw; go_simp; try with_reducible rfl
    simp only [List.getElem_toArray, List.getElem_cons_succ, List.getElem_cons_zero, Act.put, List.setIfInBounds_toArray, List.set_cons_zero, List.set_cons_succ]
    refine wpAnyE_take [5, 8, 9, 11] (i := 4) (v := ?_) rfl (by kernel_rfl) (by kernel_rfl) (by kernel_rfl) (fun _ _ _ h => h) (by kernel_rfl) (by kernel_rfl) (by kernel_rfl) (Or.inl ⟨by rfl, ?_⟩) hHeld ?_
    rotate_left
    · intro w' hSw; go_simp; try with_reducible rfl
    simp only [List.getElem_toArray, List.getElem_cons_succ, List.getElem_cons_zero, Act.put, List.setIfInBounds_toArray, List.set_cons_zero, List.set_cons_succ]
    refine wpAnyE_take [8, 9, 11] (i := 5) (v := ?_) rfl (by kernel_rfl) (by kernel_rfl) (by kernel_rfl) (fun _ _ _ h => h) (by kernel_rfl) (by kernel_rfl) (by kernel_rfl) (Or.inl ⟨by rfl, ?_⟩) hHeld ?_
    rotate_left
    · intro w' hSw; obtain ⟨cv0, cv1, cv2, cv3, cv4, cv5⟩ := cell6_of (hSw.trans HC0.out.x6); go_simp; try with_reducible rfl
    simp only [List.getElem_toArray, List.getElem_cons_succ, List.getElem_cons_zero, Act.put, List.setIfInBounds_toArray, List.set_cons_zero, List.set_cons_succ]
    refine wpAnyE_take [7, 8, 9, 11] (i := 6) (v := ?_) rfl (by kernel_rfl) (by kernel_rfl) (by kernel_rfl) (fun _ _ _ h => h) (by kernel_rfl) (by kernel_rfl) (by kernel_rfl) (Or.inl ⟨by rfl, ?_⟩) hHeld ?_
    rotate_left
    · intro w' hSw; go_simp; try with_reducible rfl
    simp only [List.getElem_toArray, List.getElem_cons_succ, List.getElem_cons_zero, Act.put, List.setIfInBounds_toArray, List.set_cons_zero, List.set_cons_succ]
    refine wpAnyE_take [8, 9, 11] (i := 7) (v := ?_) rfl (by kernel_rfl) (by kernel_rfl) (by kernel_rfl) (fun _ _ _ h => h) (by kernel_rfl) (by kernel_rfl) (by kernel_rfl) (Or.inl ⟨by rfl, ?_⟩) hHeld ?_
    rotate_left
    · intro w' hSw; go_simp; try with_reducible rfl
    simp only [List.getElem_toArray, List.getElem_cons_succ, List.getElem_cons_zero, Act.put, List.setIfInBounds_toArray, List.set_cons_zero, List.set_cons_succ]
    refine wpAnyE_take [9, 11] (i := 8) (v := ?_) rfl (by kernel_rfl) (by kernel_rfl) (by kernel_rfl) (fun _ _ _ h => h) (by kernel_rfl) (by kernel_rfl) (by kernel_rfl) (Or.inl ⟨by rfl, ?_⟩) hHeld ?_
    rotate_left
    · intro w' hSw; go_simp; try with_reducible rfl
    simp only [List.getElem_toArray, List.getElem_cons_succ, List.getElem_cons_zero, Act.put, List.setIfInBounds_toArray, List.set_cons_zero, List.set_cons_succ]
    refine wpAnyE_one (i := 9) (by kernel_rfl) rfl (by kernel_rfl) (fun K hK => ?_)
    rw [if_pos (by rfl)]
    refine wp_append_listB (.tmp 40) (.tmp 45) _ rfl Try.underlying28 I0.out I1.out rfl I2.out (by decide) I3.out (by decide) rfl PT.out.first rfl (news := (yss.drop (kk + 1)).flatten) (m := n5 - K1) (by have h := PT.out.last; rw [show p.routes.length - (kk + 1) = n5 - K1 from by have := KB.out; have := HN.out; omega] at h; exact h) (fun h => by cases h) (fun a ha j u hj => by have hl := (List.getElem?_eq_some_iff.1 hj).1; have := PT.out.last; have := CE.out; have := HN.out; have := KB.out; omega) PT.out.one (by have := L4.out; have := KB.out; omega) (by have := LW.out; have := heap_lt HC0.out.x6; show lo ≤ q4.heap.size; omega) ?_
    intro v7 w7 hown7 hgrow7
    have hown8 : w7.ownsRow lo 35 7 v7 (kk + (n5 - K1)) ((yss.take kk).flatten ++ (yss.drop (kk + 1)).flatten) := hown7
    obtain ⟨A7, c7, rfl⟩ := own_sliceN hown8
    obtain ⟨nr, hnr⟩ : ∃ x, x = kk + (n5 - K1) := ⟨_, rfl⟩
    rw [← hnr] at hown8 ⊢
    have NRE : Hid (nr = (p.routes.eraseIdx kk).length) := Lib.hid (by rw [List.length_eraseIdx, if_pos HKL.out, ← HN.out.2.2.2]; have := KB.out; omega)
    have CC := Lib.hid ((HC0.out.below (Below.refl _ q4).drew).cut PT.out HKL.out hgrow7 hown8 NRE.out (by have := L4.out; have := KB.out; unfold maxLen; omega))
    have B7 : Hid (Below w.heap.size w w7) := Lib.hid (BQ.out.drew.grown hgrow7 (show w.heap.size ≤ q4.heap.size from BQ.out.size) (fun k hk => by cases hk; exact Nat.le_trans LW.out.1 PT.out.ge))
    have HNL : Hid (nr ≤ 40) := Lib.hid (by have := L4.out; have := KB.out; omega)
    clear hown7 hgrow7 hown8 hnr
    refine hK.out _ _ ?_ (fun hHeld => ?_)
    · exact CC.out.x6.trans HC0.out.x6.symm
    clear hK K
    try simp only [List.getElem_toArray, List.getElem_cons_succ, List.getElem_cons_zero, Act.put, List.setIfInBounds_toArray, List.set_cons_zero, List.set_cons_succ]
    refine wpAnyE_take [11] (i := 10) (v := ?_) rfl (by kernel_rfl) (by kernel_rfl) (by kernel_rfl) (fun _ _ _ h => h) (by kernel_rfl) (by kernel_rfl) (by kernel_rfl) (Or.inl ⟨by rfl, ?_⟩) hHeld ?_
    rotate_left
    · intro w' hSw; go_simp; try with_reducible rfl
    simp only [List.getElem_toArray, List.getElem_cons_succ, List.getElem_cons_zero, Act.put, List.setIfInBounds_toArray, List.set_cons_zero, List.set_cons_succ]
    obtain ⟨m0, m1, m2, m3, m4, m5⟩ := cell6_of CC.out.x6
    have fz := frozen2_of CC.out.x6 5
    refine wpAnyE_last (by kernel_rfl) rfl (by kernel_rfl) (fun K hK => ?_)
    rw [if_pos (by rfl)]
    go_simp
    refine hK.out _ _ ?_
    clear hK K
    have tHC : CopyAt (w7.setCell ⟨p6, 5, none⟩ (.slice A7 nr c7)) lo p6 #[.int .i64 p.ver, .int .i64 p.par, .slice U2 n2 f2, .slice U3 n3 f3, .slice U4 n4 f4, .slice A7 nr c7] (.slice U2 n2 f2) (.slice U3 n3 f3) (.slice U4 n4 f4) (.slice A7 nr c7) p p.sigs (p.routes.eraseIdx kk) := CC.out.set 5 (.slice A7 nr c7)
    have tBQ := below_set B7.out (show w.heap.size ≤ p6 by have := LW.out; omega) 5 (.slice A7 nr c7)
    generalize w7.setCell ⟨p6, 5, none⟩ (.slice A7 nr c7) = wz at tHC tBQ ⊢
    obtain ⟨rs, hrs⟩ : ∃ r, r = p.routes.eraseIdx kk := ⟨_, rfl⟩
    rw [← hrs] at tHC NRE
    have HRS := Lib.hid hrs
    have HNR := NRE
    clear BQ
    have BQ := Lib.hid tBQ
    have HC := Lib.hid tHC
    clear tHC tBQ hrs B7 CC HC0 PT fz m0 m1 m2 m3 m4 m5 NRE
    obtain ⟨k0, k1, k2, k3, k4, k5⟩ := cell6_of HC.out.x6
    have hn4 : n4 ≤ 9223372036854775807 := by have := L4.out; omega
    have hnr : nr ≤ 9223372036854775807 := by have := L4.out; have := HNL.out; omega
    clear k0 k1 k2 k3 k4 k5
    obtain ⟨k0, k1, k2, k3, k4, k5⟩ := cell6_of HC.out.x6
    go_wp2_with fail
    clear k0 k1 k2 k3 k4 k5
    go_loopw [8, 9] (fun s8 s9 wr => ∃ i : Nat, i ≤ n4 ∧ s9 = .int .i64 i ∧ SigsOwn wr wz.heap.size s8 ((p.sigs.take i).filter (namedB rs)) ∧ Below wz.heap.size wz wr) (fun _ s9 _ => n4 - (intOf s9).toNat)
    case atStart => exact ⟨0, by omega, by go_num, by rw [List.take_zero]; exact ListOwn.nil_, Below.refl _ _⟩
    case round =>
      obtain ⟨i, hi, rfl, hso, hb⟩ := hrel
      have HW := Lib.hid (HC.out.below hb)
      have SO := Lib.hid hso
      have BV := Lib.hid hb
      clear hb
      obtain ⟨k0, k1, k2, k3, k4, k5⟩ := cell6_of HW.out.x6
      by_cases hlt : i < n4
      · have hlt' : (i : Int) < n4 := by omega
        have hir : i < p.sigs.length := by rw [← HN.out.2.2.1]; exact hlt
        obtain ⟨bk, off, rfl, hbk, hc0, hc1, hc2⟩ := ((HW.out.sigs.in_ sigR_cells)).at hir
        obtain ⟨a, b, c_, hx⟩ : ∃ a b c, p.sigs[i] = (a, b, c) := ⟨_, _, _, rfl⟩
        have HX := Lib.hid hx
        rw [hx] at hc0 hc1 hc2
        have hg0 : wr.cell? ⟨bk, off + i * 3, none⟩ = some (.int .i64 a) := hc0
        have hg1 : wr.cell? ⟨bk, off + i * 3 + 1, none⟩ = some (.int .i64 b) := hc1
        have hg2 : wr.cell? ⟨bk, off + i * 3 + 2, none⟩ = some (.int .i64 c_) := hc2
        clear hc0 hc1 hc2 hx hbk
        obtain ⟨A8, c8, rfl⟩ := hso.slice
        obtain ⟨fl, hfl⟩ : ∃ x, x = (p.sigs.take i).filter (namedB rs) := ⟨_, rfl⟩
        rw [← hfl] at SO ⊢
        have HFL := Lib.hid hfl
        have FLN : Hid (fl.length ≤ 40) := Lib.hid (by
          rw [HFL.out]
          have h1 := List.length_filter_le (namedB rs) (p.sigs.take i)
          have h2 := List.length_take_le i p.sigs
          have := L4.out
          omega)
        have HFS : Hid ((p.sigs.take (i + 1)).filter (namedB rs) = fl ++ if namedB rs (a, b, c_) then [(a, b, c_)] else []) := Lib.hid (by rw [filter_take hir, HX.out, HFL.out])
        clear hfl hso
        go_wp2_with fail
        clear k0 k1 k2 k3 k4 k5
        go_loopw [10, 11] (fun s10 s11 ws => ∃ k : Nat, k ≤ nr ∧ s11 = .int .i64 k ∧ s10 = .bool (namedB (rs.take k) (a, b, c_)) ∧ Below wr.heap.size wr ws) (fun _ s11 _ => nr - (intOf s11).toNat)
        case atStart => exact ⟨0, by omega, by go_num, by rw [List.take_zero]; rfl, Below.refl _ _⟩
        case round =>
          obtain ⟨k, hk, rfl, hnb, hb2⟩ := hrel
          have YW := Lib.hid (HW.out.below hb2)
          have hg0' := (hb2.cell (cell_lt hg0)).trans hg0
          obtain ⟨nb, hnb2⟩ : ∃ x, x = namedB (rs.take k) (a, b, c_) := ⟨_, rfl⟩
          rw [← hnb2] at hnb
          subst hnb
          have NBE := Lib.hid hnb2
          clear hnb2
          obtain ⟨k0, k1, k2, k3, k4, k5⟩ := cell6_of YW.out.x6
          by_cases hl2 : k < nr
          · have hl2' : (k : Int) < nr := by omega
            have hkr : k < rs.length := by rw [← HNR.out]; exact hl2
            obtain ⟨bq, ofq, rfl, hbq, -, hc1, hc2, -, -⟩ := (YW.out.routes.in_).at hkr
            have NT := Lib.hid (namedB_take hkr (a, b, c_))
            obtain ⟨en, hen⟩ : ∃ z, z = rs[k].entry := ⟨_, rfl⟩
            obtain ⟨ex, hex⟩ : ∃ z, z = rs[k].exit := ⟨_, rfl⟩
            rw [← hen] at hc1 NT
            rw [← hex] at hc2 NT
            rw [← NBE.out] at NT
            dsimp only at NT
            have hd1 : wr.cell? ⟨bq, ofq + k * 7 + 1, none⟩ = some (.int .i64 en) := hc1
            have hd2 : wr.cell? ⟨bq, ofq + k * 7 + 2, none⟩ = some (.int .i64 ex) := hc2
            have BD := Lib.hid (fun nq => (⟨hb2.os, hb2.tape, hb2.output, hb2.size, hb2.block⟩ : Below _ _ (wr.drewN nq)))
            clear hen hex hbq hb2 hc1 hc2
            cases nb with
            | true =>
              have NX : Hid (namedB (rs.take (k + 1)) (a, b, c_) = true) := Lib.hid (by rw [NT.out]; rfl)
              go_upto_region 16 with fail
              go_quiet (fail)
              have hdb := BD.out nq
              generalize wr.drewN nq = q9 at hdb ⊢
              have B9 := Lib.hid hdb
              clear hdb BD hg0' hd1 hd2 k0 k1 k2 k3 k4 k5
              go_wp2_with fail
              go_roundw
              case measure => simp [intOf]; omega
              case rel => exact ⟨k + 1, by omega, by go_num, by rw [NX.out], B9.out⟩
            | false =>
              by_cases he1 : en = a
              · have he1d : (en == a) = true := by simpa using he1
                have NX : Hid (namedB (rs.take (k + 1)) (a, b, c_) = true) := Lib.hid (by rw [NT.out, decide_eq_true (Or.inl he1)]; rfl)
                clear he1
                go_upto_region 16 with fail
                go_quiet (fail)
                have hdb := BD.out nq
                generalize wr.drewN nq = q9 at hdb ⊢
                have B9 := Lib.hid hdb
                clear hdb BD hg0' hd1 hd2 k0 k1 k2 k3 k4 k5
                go_wp2_with fail
                go_roundw
                case measure => simp [intOf]; omega
                case rel => exact ⟨k + 1, by omega, by go_num, by rw [NX.out], B9.out⟩
              · have he1d : (en == a) = false := by simpa using he1
                by_cases he2 : ex = a
                · have he2d : (ex == a) = true := by simpa using he2
                  have NX : Hid (namedB (rs.take (k + 1)) (a, b, c_) = true) := Lib.hid (by rw [NT.out, decide_eq_true (Or.inr he2)]; rfl)
                  clear he1 he2
                  go_upto_region 16 with fail
                  go_quiet (fail)
                  have hdb := BD.out nq
                  generalize wr.drewN nq = q9 at hdb ⊢
                  have B9 := Lib.hid hdb
                  clear hdb BD hg0' hd1 hd2 k0 k1 k2 k3 k4 k5
                  go_wp2_with fail
                  go_roundw
                  case measure => simp [intOf]; omega
                  case rel => exact ⟨k + 1, by omega, by go_num, by rw [NX.out], B9.out⟩
                · have he2d : (ex == a) = false := by simpa using he2
                  have NX : Hid (namedB (rs.take (k + 1)) (a, b, c_) = false) := Lib.hid (by rw [NT.out, decide_eq_false (by rintro (h | h); exact he1 h; exact he2 h)]; rfl)
                  clear he1 he2
                  go_upto_region 16 with fail
                  go_quiet (fail)
                  have hdb := BD.out nq
                  generalize wr.drewN nq = q9 at hdb ⊢
                  have B9 := Lib.hid hdb
                  clear hdb BD hg0' hd1 hd2 k0 k1 k2 k3 k4 k5
                  go_wp2_with fail
                  go_roundw
                  case measure => simp [intOf]; omega
                  case rel => exact ⟨k + 1, by omega, by go_num, by rw [NX.out], B9.out⟩
          · obtain rfl : nr = k := by omega
            have hl2' : ¬ (nr : Int) < nr := by omega
            have NF : Hid (nb = namedB rs (a, b, c_)) := Lib.hid (by rw [NBE.out, HNR.out, List.take_length])
            have SI := Lib.hid (SO.out.below sigR hb2)
            have BI := Lib.hid (BV.out.trans (hb2.mono BV.out.size))
            have hg1' := (hb2.cell (cell_lt hg1)).trans hg1
            have hg2' := (hb2.cell (cell_lt hg2)).trans hg2
            clear hb2 hg0 hg1 hg2
            cases nb with
            | false =>
              have HT1 : Hid ((p.sigs.take (i + 1)).filter (namedB rs) = fl) := Lib.hid (by rw [HFS.out, ← NF.out]; simp)
              go_wp2_with fail
              go_roundw
              case measure => simp [intOf]; omega
              case rel => exact ⟨i + 1, by omega, by go_num, by rw [HT1.out]; exact SI.out, BI.out⟩
            | true =>
              have HT1 : Hid ((p.sigs.take (i + 1)).filter (namedB rs) = fl ++ [(a, b, c_)]) := Lib.hid (by rw [HFS.out, ← NF.out]; simp)
              obtain ⟨i0, hii, hz0, hz1, hz2⟩ := info_parts infoSigI
              have I0 := Lib.hid hii
              have I1 := Lib.hid hz0
              have I2 := Lib.hid hz1
              have I3 := Lib.hid hz2
              obtain ⟨yss, hown, hyl, hm, hys, hyr⟩ := SI.out
              obtain ⟨L, hL⟩ : ∃ x, x = fl.length := ⟨_, rfl⟩
              have HL := Lib.hid hL
              have O : Hid (wr.ownsRow wz.heap.size 49 3 (.slice A8 L c8) L yss.flatten) := Lib.hid (by rw [HL.out]; exact hown)
              have YL := Lib.hid hyl
              have YS := Lib.hid hys
              have YR := Lib.hid hyr
              rw [← hL]
              clear hii hz0 hz1 hz2 hown hyl hm hys hyr hL
              go_wp2_with ((with_reducible show wpList _ _ _ (⟨some 101, _, _, _, _, _⟩ :: _) _ _); refine wpList_append_list rfl (.tmp 94) (.tmp 100) _ rfl Try.underlying27 I0.out I1.out rfl I2.out (by decide) I3.out (by decide) rfl (O.out.alloc _) (m := 1) rfl (news := [.int .i64 a, .int .i64 b, .int .i64 c_]) rfl (fun h => by cases h) (fun a ha j u hj => by cases ha; rw [Addr.add_lit, Nat.zero_add, World.cell?_alloc_new]; simpa using hj) (by simp [Value.oneCell']) (by have := FLN.out; have := HL.out; omega) (by have := BI.out.size; simp; omega) ?_; intro v4 w9 hown4 hgrow4)
              have S4 : Hid (SigsOwn w9 wz.heap.size v4 (fl ++ [(a, b, c_)])) := Lib.hid (ListOwn.snoc (w1 := wr) (x := (a, b, c_)) (ys := [.int .i64 a, .int .i64 b, .int .i64 c_]) sigR (fun _ h _ _ => h) (by rw [← HL.out]; exact O.out) YL.out YS.out rfl (by have := FLN.out; unfold maxLen; omega) YR.out (Below.refl _ _) ⟨rfl, rfl, rfl⟩ (by rw [← HL.out]; exact hown4) hgrow4)
              have B9 := Lib.hid ((BI.out.alloc BI.out.size _).grown hgrow4 (by have := BI.out.size; simp; omega) (own_ge O.out))
              clear hown4 hgrow4
              go_roundw
              case measure => simp [intOf]; omega
              case rel => exact ⟨i + 1, by omega, by go_num, by rw [HT1.out]; exact S4.out, B9.out⟩
      · obtain rfl : n4 = i := by omega
        have hlt' : ¬ (n4 : Int) < n4 := by omega
        obtain ⟨A8, c8, rfl⟩ := hso.slice
        have SL : Hid (SigsOwn wr wz.heap.size (.slice A8 ((p.sigs.take n4).filter (namedB rs)).length c8) (p.sigs.filter (namedB rs))) := Lib.hid (by
          have := hso
          rw [show p.sigs.take n4 = p.sigs from List.take_of_length_le (by have := HN.out; omega)] at this ⊢
          exact this)
        generalize ((p.sigs.take n4).filter (namedB rs)).length = L at SL ⊢
        have tBY := below_set (BQ.out.trans (BV.out.mono BQ.out.size)) (show w.heap.size ≤ p6 by have := LW.out; omega) 4 (.slice A8 L c8)
        have tHY : CopyAt (wr.setCell ⟨p6, 4, none⟩ (.slice A8 L c8)) lo p6 #[.int .i64 p.ver, .int .i64 p.par, .slice U2 n2 f2, .slice U3 n3 f3, .slice A8 L c8, .slice A7 nr c7] (.slice U2 n2 f2) (.slice U3 n3 f3) (.slice A8 L c8) (.slice A7 nr c7) p (p.sigs.filter (namedB rs)) rs := (HW.out.left (SL.out.mono (show lo ≤ wz.heap.size by have := LW.out; have := heap_lt HC.out.x6; omega))).set 4 (.slice A8 L c8)
        have fz := frozen2_of HW.out.x6 4
        clear hso SO BV
        go_upto_region 20 with fail
        generalize wr.setCell ⟨p6, 4, none⟩ (.slice A8 L c8) = wy at tBY tHY ⊢
        have BY := Lib.hid tBY
        have HY := Lib.hid tHY
        clear tBY tHY fz k0 k1 k2 k3 k4 k5 HW SL HC BQ
        obtain ⟨k0, k1, k2, k3, k4, k5⟩ := cell6_of HY.out.x6
        by_cases hv : p.ver < 2147483647
        · have hvd : decide (p.ver < 2147483647) = true := decide_eq_true hv
          have HV := Lib.hid hv
          have hw1 : IntKind.i64.wrap (p.ver + 1) = p.ver + 1 := wrap_id (by have := PM.out.ver; omega) (by omega)
          have tBY := below_set BY.out (show w.heap.size ≤ p6 by have := LW.out; omega) 1 (.int .i64 p.ver)
          have tHY : CopyAt (wy.setCell ⟨p6, 1, none⟩ (.int .i64 p.ver)) lo p6 #[.int .i64 p.ver, .int .i64 p.ver, .slice U2 n2 f2, .slice U3 n3 f3, .slice A8 L c8, .slice A7 nr c7] (.slice U2 n2 f2) (.slice U3 n3 f3) (.slice A8 L c8) (.slice A7 nr c7) p (p.sigs.filter (namedB rs)) rs := HY.out.set 1 (.int .i64 p.ver)
          have fz := frozen2_of HY.out.x6 1
          go_upto_region 22 with fail
          generalize wy.setCell ⟨p6, 1, none⟩ (.int .i64 p.ver) = wx at tBY tHY ⊢
          clear BY HY fz k0 k1 k2 k3 k4 k5 hv hvd
          have BY := Lib.hid tBY
          have HY := Lib.hid tHY
          clear tBY tHY
          obtain ⟨k0, k1, k2, k3, k4, k5⟩ := cell6_of HY.out.x6
          have tBY := below_set BY.out (show w.heap.size ≤ p6 by have := LW.out; omega) 0 (.int .i64 (p.ver + 1))
          have tHY : CopyAt (wx.setCell ⟨p6, 0, none⟩ (.int .i64 (p.ver + 1))) lo p6 #[.int .i64 (p.ver + 1), .int .i64 p.ver, .slice U2 n2 f2, .slice U3 n3 f3, .slice A8 L c8, .slice A7 nr c7] (.slice U2 n2 f2) (.slice U3 n3 f3) (.slice A8 L c8) (.slice A7 nr c7) p (p.sigs.filter (namedB rs)) rs := HY.out.set 0 (.int .i64 (p.ver + 1))
          have fz := frozen2_of HY.out.x6 0
          go_upto_region 23 with fail
          generalize wx.setCell ⟨p6, 0, none⟩ (.int .i64 (p.ver + 1)) = wv at tBY tHY ⊢
          clear BY HY fz k0 k1 k2 k3 k4 k5 hw1
          have BY := Lib.hid tBY
          have HY := Lib.hid tHY
          clear tBY tHY
          have PE : Hid (fewP p kk = ⟨p.ver + 1, p.ver, p.secs, p.pts, p.sigs.filter (namedB rs), rs⟩) := Lib.hid (by rw [fewP, if_pos HV.out, if_pos HV.out, ← HRS.out])
          have CK0 : Hid (chk8 ⟨p.ver + 1, p.ver, p.secs, p.pts, p.sigs.filter (namedB rs), rs⟩ = 0) := Lib.hid (by rw [← PE.out, chk8, few_chk (planMay_true PM.out) kk]; rfl)
          obtain ⟨k0, k1, k2, k3, k4, k5⟩ := cell6_of HY.out.x6
          go_wp2_with fail
          refine (hp.check _ ⟨p.ver + 1, p.ver, p.secs, p.pts, p.sigs.filter (namedB rs), rs⟩ _ ⟨_, _, _, _, rfl, ⟨HY.out.secs.in_, HY.out.pts.in_ joinR_cells, HY.out.sigs.in_ sigR_cells, HY.out.routes.in_⟩⟩).mono ?_
          rintro e wf ⟨rfl, bf⟩
          have BF := Lib.hid (BY.out.trans (bf.mono BY.out.size))
          clear bf k0 k1 k2 k3 k4 k5
          rw [CK0.out]
          go_wp2_with fail
          go_ret
          exact ⟨rfl, BF.out⟩
        · have hvd : decide (p.ver < 2147483647) = false := decide_eq_false hv
          have HV := Lib.hid hv
          clear hv
          go_upto_region 23 with fail
          clear hvd k0 k1 k2 k3 k4 k5
          have PE : Hid (fewP p kk = ⟨p.ver, p.par, p.secs, p.pts, p.sigs.filter (namedB rs), rs⟩) := Lib.hid (by rw [fewP, if_neg HV.out, if_neg HV.out, ← HRS.out])
          have CK0 : Hid (chk8 ⟨p.ver, p.par, p.secs, p.pts, p.sigs.filter (namedB rs), rs⟩ = 0) := Lib.hid (by rw [← PE.out, chk8, few_chk (planMay_true PM.out) kk]; rfl)
          obtain ⟨k0, k1, k2, k3, k4, k5⟩ := cell6_of HY.out.x6
          go_wp2_with fail
          refine (hp.check _ ⟨p.ver, p.par, p.secs, p.pts, p.sigs.filter (namedB rs), rs⟩ _ ⟨_, _, _, _, rfl, ⟨HY.out.secs.in_, HY.out.pts.in_ joinR_cells, HY.out.sigs.in_ sigR_cells, HY.out.routes.in_⟩⟩).mono ?_
          rintro e wf ⟨rfl, bf⟩
          have BF := Lib.hid (BY.out.trans (bf.mono BY.out.size))
          clear bf k0 k1 k2 k3 k4 k5
          rw [CK0.out]
          go_wp2_with fail
          go_ret
          exact ⟨rfl, BF.out⟩
  · have hce2 : ¬ (f5 : Int) = K1 := by omega
    refine wp_region_end (S := fun v' => v'.heap[p6]? = q4.heap[p6]?) 11 (by kernel_rfl) rfl (fun hHeld => ?_)
    refine wpAnyE_take [1, 3, 9, 11] (i := 0) (v := ?_) rfl (by kernel_rfl) (by kernel_rfl) (by kernel_rfl) (fun _ _ _ h => h) (by kernel_rfl) (by kernel_rfl) (by kernel_rfl) (Or.inl ⟨by rfl, ?_⟩) hHeld ?_
    rotate_left
    · intro w' hSw; go_simp; try with_reducible rfl
    simp only [List.getElem_toArray, List.getElem_cons_succ, List.getElem_cons_zero, Act.put, List.setIfInBounds_toArray, List.set_cons_zero, List.set_cons_succ]
    refine wpAnyE_take [3, 9, 11] (i := 1) (v := ?_) rfl (by kernel_rfl) (by kernel_rfl) (by kernel_rfl) (fun _ _ _ h => h) (by kernel_rfl) (by kernel_rfl) (by kernel_rfl) (Or.inl ⟨by rfl, ?_⟩) hHeld ?_
    rotate_left
    · intro w' hSw; obtain ⟨cv0, cv1, cv2, cv3, cv4, cv5⟩ := cell6_of (hSw.trans HC0.out.x6); go_simp; try with_reducible rfl
    simp only [List.getElem_toArray, List.getElem_cons_succ, List.getElem_cons_zero, Act.put, List.setIfInBounds_toArray, List.set_cons_zero, List.set_cons_succ]
    refine wpAnyE_take [3, 9, 11] (i := 2) (v := ?_) rfl (by kernel_rfl) (by kernel_rfl) (by kernel_rfl) (fun _ _ _ h => h) (by kernel_rfl) (by kernel_rfl) (by kernel_rfl) (Or.inl ⟨by rfl, ?_⟩) hHeld ?_
    rotate_left
    · intro w' hSw; go_simp; try with_reducible rfl
    simp only [List.getElem_toArray, List.getElem_cons_succ, List.getElem_cons_zero, Act.put, List.setIfInBounds_toArray, List.set_cons_zero, List.set_cons_succ]
    refine wpAnyE_take [9, 11] (i := 3) (v := ?_) rfl (by kernel_rfl) (by kernel_rfl) (by kernel_rfl) (fun _ _ _ h => h) (by kernel_rfl) (by kernel_rfl) (by kernel_rfl) (Or.inl ⟨by rfl, ?_⟩) hHeld ?_
    rotate_left
    · intro w' hSw; go_simp; try with_reducible rfl
    simp only [List.getElem_toArray, List.getElem_cons_succ, List.getElem_cons_zero, Act.put, List.setIfInBounds_toArray, List.set_cons_zero, List.set_cons_succ]
    refine wpAnyE_take [5, 8, 9, 11] (i := 4) (v := ?_) rfl (by kernel_rfl) (by kernel_rfl) (by kernel_rfl) (fun _ _ _ h => h) (by kernel_rfl) (by kernel_rfl) (by kernel_rfl) (Or.inl ⟨by rfl, ?_⟩) hHeld ?_
    rotate_left
    · intro w' hSw; go_simp; try with_reducible rfl
    simp only [List.getElem_toArray, List.getElem_cons_succ, List.getElem_cons_zero, Act.put, List.setIfInBounds_toArray, List.set_cons_zero, List.set_cons_succ]
    refine wpAnyE_take [8, 9, 11] (i := 5) (v := ?_) rfl (by kernel_rfl) (by kernel_rfl) (by kernel_rfl) (fun _ _ _ h => h) (by kernel_rfl) (by kernel_rfl) (by kernel_rfl) (Or.inl ⟨by rfl, ?_⟩) hHeld ?_
    rotate_left
    · intro w' hSw; obtain ⟨cv0, cv1, cv2, cv3, cv4, cv5⟩ := cell6_of (hSw.trans HC0.out.x6); go_simp; try with_reducible rfl
    simp only [List.getElem_toArray, List.getElem_cons_succ, List.getElem_cons_zero, Act.put, List.setIfInBounds_toArray, List.set_cons_zero, List.set_cons_succ]
    refine wpAnyE_take [7, 8, 9, 11] (i := 6) (v := ?_) rfl (by kernel_rfl) (by kernel_rfl) (by kernel_rfl) (fun _ _ _ h => h) (by kernel_rfl) (by kernel_rfl) (by kernel_rfl) (Or.inl ⟨by rfl, ?_⟩) hHeld ?_
    rotate_left
    · intro w' hSw; go_simp; try with_reducible rfl
    simp only [List.getElem_toArray, List.getElem_cons_succ, List.getElem_cons_zero, Act.put, List.setIfInBounds_toArray, List.set_cons_zero, List.set_cons_succ]
    refine wpAnyE_take [8, 9, 11] (i := 7) (v := ?_) rfl (by kernel_rfl) (by kernel_rfl) (by kernel_rfl) (fun _ _ _ h => h) (by kernel_rfl) (by kernel_rfl) (by kernel_rfl) (Or.inl ⟨by rfl, ?_⟩) hHeld ?_
    rotate_left
    · intro w' hSw; go_simp; try with_reducible rfl
    simp only [List.getElem_toArray, List.getElem_cons_succ, List.getElem_cons_zero, Act.put, List.setIfInBounds_toArray, List.set_cons_zero, List.set_cons_succ]
    refine wpAnyE_take [9, 11] (i := 8) (v := ?_) rfl (by kernel_rfl) (by kernel_rfl) (by kernel_rfl) (fun _ _ _ h => h) (by kernel_rfl) (by kernel_rfl) (by kernel_rfl) (Or.inl ⟨by rfl, ?_⟩) hHeld ?_
    rotate_left
    · intro w' hSw; go_simp; try with_reducible rfl
    simp only [List.getElem_toArray, List.getElem_cons_succ, List.getElem_cons_zero, Act.put, List.setIfInBounds_toArray, List.set_cons_zero, List.set_cons_succ]
    refine wpAnyE_one (i := 9) (by kernel_rfl) rfl (by kernel_rfl) (fun K hK => ?_)
    rw [if_pos (by rfl)]
    refine wp_append_listB (.tmp 40) (.tmp 45) _ rfl Try.underlying28 I0.out I1.out rfl I2.out (by decide) I3.out (by decide) rfl PT.out.first rfl (news := (yss.drop (kk + 1)).flatten) (m := n5 - K1) (by have h := PT.out.last; rw [show p.routes.length - (kk + 1) = n5 - K1 from by have := KB.out; have := HN.out; omega] at h; exact h) (fun h => by cases h) (fun a ha j u hj => by cases ha; rw [Addr.add_lit]; have := PT.out.cells j u hj; rw [← KB.out.1] at this; simpa using this) PT.out.one (by have := L4.out; have := KB.out; omega) (by have := LW.out; have := heap_lt HC0.out.x6; show lo ≤ q4.heap.size; omega) ?_
    intro v7 w7 hown7 hgrow7
    have hown8 : w7.ownsRow lo 35 7 v7 (kk + (n5 - K1)) ((yss.take kk).flatten ++ (yss.drop (kk + 1)).flatten) := hown7
    obtain ⟨A7, c7, rfl⟩ := own_sliceN hown8
    obtain ⟨nr, hnr⟩ : ∃ x, x = kk + (n5 - K1) := ⟨_, rfl⟩
    rw [← hnr] at hown8 ⊢
    have NRE : Hid (nr = (p.routes.eraseIdx kk).length) := Lib.hid (by rw [List.length_eraseIdx, if_pos HKL.out, ← HN.out.2.2.2]; have := KB.out; omega)
    have CC := Lib.hid ((HC0.out.below (Below.refl _ q4).drew).cut PT.out HKL.out hgrow7 hown8 NRE.out (by have := L4.out; have := KB.out; unfold maxLen; omega))
    have B7 : Hid (Below w.heap.size w w7) := Lib.hid (BQ.out.drew.grown hgrow7 (show w.heap.size ≤ q4.heap.size from BQ.out.size) (fun k hk => by cases hk; exact Nat.le_trans LW.out.1 PT.out.ge))
    have HNL : Hid (nr ≤ 40) := Lib.hid (by have := L4.out; have := KB.out; omega)
    clear hown7 hgrow7 hown8 hnr
    refine hK.out _ _ ?_ (fun hHeld => ?_)
    · exact CC.out.x6.trans HC0.out.x6.symm
    clear hK K
    try simp only [List.getElem_toArray, List.getElem_cons_succ, List.getElem_cons_zero, Act.put, List.setIfInBounds_toArray, List.set_cons_zero, List.set_cons_succ]
    refine wpAnyE_take [11] (i := 10) (v := ?_) rfl (by kernel_rfl) (by kernel_rfl) (by kernel_rfl) (fun _ _ _ h => h) (by kernel_rfl) (by kernel_rfl) (by kernel_rfl) (Or.inl ⟨by rfl, ?_⟩) hHeld ?_
    rotate_left
    · intro w' hSw; go_simp; try with_reducible rfl
    simp only [List.getElem_toArray, List.getElem_cons_succ, List.getElem_cons_zero, Act.put, List.setIfInBounds_toArray, List.set_cons_zero, List.set_cons_succ]
    obtain ⟨m0, m1, m2, m3, m4, m5⟩ := cell6_of CC.out.x6
    have fz := frozen2_of CC.out.x6 5
    refine wpAnyE_last (by kernel_rfl) rfl (by kernel_rfl) (fun K hK => ?_)
    rw [if_pos (by rfl)]
    go_simp
    refine hK.out _ _ ?_
    clear hK K
    have tHC : CopyAt (w7.setCell ⟨p6, 5, none⟩ (.slice A7 nr c7)) lo p6 #[.int .i64 p.ver, .int .i64 p.par, .slice U2 n2 f2, .slice U3 n3 f3, .slice U4 n4 f4, .slice A7 nr c7] (.slice U2 n2 f2) (.slice U3 n3 f3) (.slice U4 n4 f4) (.slice A7 nr c7) p p.sigs (p.routes.eraseIdx kk) := CC.out.set 5 (.slice A7 nr c7)
    have tBQ := below_set B7.out (show w.heap.size ≤ p6 by have := LW.out; omega) 5 (.slice A7 nr c7)
    generalize w7.setCell ⟨p6, 5, none⟩ (.slice A7 nr c7) = wz at tHC tBQ ⊢
    obtain ⟨rs, hrs⟩ : ∃ r, r = p.routes.eraseIdx kk := ⟨_, rfl⟩
    rw [← hrs] at tHC NRE
    have HRS := Lib.hid hrs
    have HNR := NRE
    clear BQ
    have BQ := Lib.hid tBQ
    have HC := Lib.hid tHC
    clear tHC tBQ hrs B7 CC HC0 PT fz m0 m1 m2 m3 m4 m5 NRE
    obtain ⟨k0, k1, k2, k3, k4, k5⟩ := cell6_of HC.out.x6
    have hn4 : n4 ≤ 9223372036854775807 := by have := L4.out; omega
    have hnr : nr ≤ 9223372036854775807 := by have := L4.out; have := HNL.out; omega
    clear k0 k1 k2 k3 k4 k5
    obtain ⟨k0, k1, k2, k3, k4, k5⟩ := cell6_of HC.out.x6
    go_wp2_with fail
    clear k0 k1 k2 k3 k4 k5
    go_loopw [8, 9] (fun s8 s9 wr => ∃ i : Nat, i ≤ n4 ∧ s9 = .int .i64 i ∧ SigsOwn wr wz.heap.size s8 ((p.sigs.take i).filter (namedB rs)) ∧ Below wz.heap.size wz wr) (fun _ s9 _ => n4 - (intOf s9).toNat)
    case atStart => exact ⟨0, by omega, by go_num, by rw [List.take_zero]; exact ListOwn.nil_, Below.refl _ _⟩
    case round =>
      obtain ⟨i, hi, rfl, hso, hb⟩ := hrel
      have HW := Lib.hid (HC.out.below hb)
      have SO := Lib.hid hso
      have BV := Lib.hid hb
      clear hb
      obtain ⟨k0, k1, k2, k3, k4, k5⟩ := cell6_of HW.out.x6
      by_cases hlt : i < n4
      · have hlt' : (i : Int) < n4 := by omega
        have hir : i < p.sigs.length := by rw [← HN.out.2.2.1]; exact hlt
        obtain ⟨bk, off, rfl, hbk, hc0, hc1, hc2⟩ := ((HW.out.sigs.in_ sigR_cells)).at hir
        obtain ⟨a, b, c_, hx⟩ : ∃ a b c, p.sigs[i] = (a, b, c) := ⟨_, _, _, rfl⟩
        have HX := Lib.hid hx
        rw [hx] at hc0 hc1 hc2
        have hg0 : wr.cell? ⟨bk, off + i * 3, none⟩ = some (.int .i64 a) := hc0
        have hg1 : wr.cell? ⟨bk, off + i * 3 + 1, none⟩ = some (.int .i64 b) := hc1
        have hg2 : wr.cell? ⟨bk, off + i * 3 + 2, none⟩ = some (.int .i64 c_) := hc2
        clear hc0 hc1 hc2 hx hbk
        obtain ⟨A8, c8, rfl⟩ := hso.slice
        obtain ⟨fl, hfl⟩ : ∃ x, x = (p.sigs.take i).filter (namedB rs) := ⟨_, rfl⟩
        rw [← hfl] at SO ⊢
        have HFL := Lib.hid hfl
        have FLN : Hid (fl.length ≤ 40) := Lib.hid (by
          rw [HFL.out]
          have h1 := List.length_filter_le (namedB rs) (p.sigs.take i)
          have h2 := List.length_take_le i p.sigs
          have := L4.out
          omega)
        have HFS : Hid ((p.sigs.take (i + 1)).filter (namedB rs) = fl ++ if namedB rs (a, b, c_) then [(a, b, c_)] else []) := Lib.hid (by rw [filter_take hir, HX.out, HFL.out])
        clear hfl hso
        go_wp2_with fail
        clear k0 k1 k2 k3 k4 k5
        go_loopw [10, 11] (fun s10 s11 ws => ∃ k : Nat, k ≤ nr ∧ s11 = .int .i64 k ∧ s10 = .bool (namedB (rs.take k) (a, b, c_)) ∧ Below wr.heap.size wr ws) (fun _ s11 _ => nr - (intOf s11).toNat)
        case atStart => exact ⟨0, by omega, by go_num, by rw [List.take_zero]; rfl, Below.refl _ _⟩
        case round =>
          obtain ⟨k, hk, rfl, hnb, hb2⟩ := hrel
          have YW := Lib.hid (HW.out.below hb2)
          have hg0' := (hb2.cell (cell_lt hg0)).trans hg0
          obtain ⟨nb, hnb2⟩ : ∃ x, x = namedB (rs.take k) (a, b, c_) := ⟨_, rfl⟩
          rw [← hnb2] at hnb
          subst hnb
          have NBE := Lib.hid hnb2
          clear hnb2
          obtain ⟨k0, k1, k2, k3, k4, k5⟩ := cell6_of YW.out.x6
          by_cases hl2 : k < nr
          · have hl2' : (k : Int) < nr := by omega
            have hkr : k < rs.length := by rw [← HNR.out]; exact hl2
            obtain ⟨bq, ofq, rfl, hbq, -, hc1, hc2, -, -⟩ := (YW.out.routes.in_).at hkr
            have NT := Lib.hid (namedB_take hkr (a, b, c_))
            obtain ⟨en, hen⟩ : ∃ z, z = rs[k].entry := ⟨_, rfl⟩
            obtain ⟨ex, hex⟩ : ∃ z, z = rs[k].exit := ⟨_, rfl⟩
            rw [← hen] at hc1 NT
            rw [← hex] at hc2 NT
            rw [← NBE.out] at NT
            dsimp only at NT
            have hd1 : wr.cell? ⟨bq, ofq + k * 7 + 1, none⟩ = some (.int .i64 en) := hc1
            have hd2 : wr.cell? ⟨bq, ofq + k * 7 + 2, none⟩ = some (.int .i64 ex) := hc2
            have BD := Lib.hid (fun nq => (⟨hb2.os, hb2.tape, hb2.output, hb2.size, hb2.block⟩ : Below _ _ (wr.drewN nq)))
            clear hen hex hbq hb2 hc1 hc2
            cases nb with
            | true =>
              have NX : Hid (namedB (rs.take (k + 1)) (a, b, c_) = true) := Lib.hid (by rw [NT.out]; rfl)
              go_upto_region 16 with fail
              go_quiet (fail)
              have hdb := BD.out nq
              generalize wr.drewN nq = q9 at hdb ⊢
              have B9 := Lib.hid hdb
              clear hdb BD hg0' hd1 hd2 k0 k1 k2 k3 k4 k5
              go_wp2_with fail
              go_roundw
              case measure => simp [intOf]; omega
              case rel => exact ⟨k + 1, by omega, by go_num, by rw [NX.out], B9.out⟩
            | false =>
              by_cases he1 : en = a
              · have he1d : (en == a) = true := by simpa using he1
                have NX : Hid (namedB (rs.take (k + 1)) (a, b, c_) = true) := Lib.hid (by rw [NT.out, decide_eq_true (Or.inl he1)]; rfl)
                clear he1
                go_upto_region 16 with fail
                go_quiet (fail)
                have hdb := BD.out nq
                generalize wr.drewN nq = q9 at hdb ⊢
                have B9 := Lib.hid hdb
                clear hdb BD hg0' hd1 hd2 k0 k1 k2 k3 k4 k5
                go_wp2_with fail
                go_roundw
                case measure => simp [intOf]; omega
                case rel => exact ⟨k + 1, by omega, by go_num, by rw [NX.out], B9.out⟩
              · have he1d : (en == a) = false := by simpa using he1
                by_cases he2 : ex = a
                · have he2d : (ex == a) = true := by simpa using he2
                  have NX : Hid (namedB (rs.take (k + 1)) (a, b, c_) = true) := Lib.hid (by rw [NT.out, decide_eq_true (Or.inr he2)]; rfl)
                  clear he1 he2
                  go_upto_region 16 with fail
                  go_quiet (fail)
                  have hdb := BD.out nq
                  generalize wr.drewN nq = q9 at hdb ⊢
                  have B9 := Lib.hid hdb
                  clear hdb BD hg0' hd1 hd2 k0 k1 k2 k3 k4 k5
                  go_wp2_with fail
                  go_roundw
                  case measure => simp [intOf]; omega
                  case rel => exact ⟨k + 1, by omega, by go_num, by rw [NX.out], B9.out⟩
                · have he2d : (ex == a) = false := by simpa using he2
                  have NX : Hid (namedB (rs.take (k + 1)) (a, b, c_) = false) := Lib.hid (by rw [NT.out, decide_eq_false (by rintro (h | h); exact he1 h; exact he2 h)]; rfl)
                  clear he1 he2
                  go_upto_region 16 with fail
                  go_quiet (fail)
                  have hdb := BD.out nq
                  generalize wr.drewN nq = q9 at hdb ⊢
                  have B9 := Lib.hid hdb
                  clear hdb BD hg0' hd1 hd2 k0 k1 k2 k3 k4 k5
                  go_wp2_with fail
                  go_roundw
                  case measure => simp [intOf]; omega
                  case rel => exact ⟨k + 1, by omega, by go_num, by rw [NX.out], B9.out⟩
          · obtain rfl : nr = k := by omega
            have hl2' : ¬ (nr : Int) < nr := by omega
            have NF : Hid (nb = namedB rs (a, b, c_)) := Lib.hid (by rw [NBE.out, HNR.out, List.take_length])
            have SI := Lib.hid (SO.out.below sigR hb2)
            have BI := Lib.hid (BV.out.trans (hb2.mono BV.out.size))
            have hg1' := (hb2.cell (cell_lt hg1)).trans hg1
            have hg2' := (hb2.cell (cell_lt hg2)).trans hg2
            clear hb2 hg0 hg1 hg2
            cases nb with
            | false =>
              have HT1 : Hid ((p.sigs.take (i + 1)).filter (namedB rs) = fl) := Lib.hid (by rw [HFS.out, ← NF.out]; simp)
              go_wp2_with fail
              go_roundw
              case measure => simp [intOf]; omega
              case rel => exact ⟨i + 1, by omega, by go_num, by rw [HT1.out]; exact SI.out, BI.out⟩
            | true =>
              have HT1 : Hid ((p.sigs.take (i + 1)).filter (namedB rs) = fl ++ [(a, b, c_)]) := Lib.hid (by rw [HFS.out, ← NF.out]; simp)
              obtain ⟨i0, hii, hz0, hz1, hz2⟩ := info_parts infoSigI
              have I0 := Lib.hid hii
              have I1 := Lib.hid hz0
              have I2 := Lib.hid hz1
              have I3 := Lib.hid hz2
              obtain ⟨yss, hown, hyl, hm, hys, hyr⟩ := SI.out
              obtain ⟨L, hL⟩ : ∃ x, x = fl.length := ⟨_, rfl⟩
              have HL := Lib.hid hL
              have O : Hid (wr.ownsRow wz.heap.size 49 3 (.slice A8 L c8) L yss.flatten) := Lib.hid (by rw [HL.out]; exact hown)
              have YL := Lib.hid hyl
              have YS := Lib.hid hys
              have YR := Lib.hid hyr
              rw [← hL]
              clear hii hz0 hz1 hz2 hown hyl hm hys hyr hL
              go_wp2_with ((with_reducible show wpList _ _ _ (⟨some 101, _, _, _, _, _⟩ :: _) _ _); refine wpList_append_list rfl (.tmp 94) (.tmp 100) _ rfl Try.underlying27 I0.out I1.out rfl I2.out (by decide) I3.out (by decide) rfl (O.out.alloc _) (m := 1) rfl (news := [.int .i64 a, .int .i64 b, .int .i64 c_]) rfl (fun h => by cases h) (fun a ha j u hj => by cases ha; rw [Addr.add_lit, Nat.zero_add, World.cell?_alloc_new]; simpa using hj) (by simp [Value.oneCell']) (by have := FLN.out; have := HL.out; omega) (by have := BI.out.size; simp; omega) ?_; intro v4 w9 hown4 hgrow4)
              have S4 : Hid (SigsOwn w9 wz.heap.size v4 (fl ++ [(a, b, c_)])) := Lib.hid (ListOwn.snoc (w1 := wr) (x := (a, b, c_)) (ys := [.int .i64 a, .int .i64 b, .int .i64 c_]) sigR (fun _ h _ _ => h) (by rw [← HL.out]; exact O.out) YL.out YS.out rfl (by have := FLN.out; unfold maxLen; omega) YR.out (Below.refl _ _) ⟨rfl, rfl, rfl⟩ (by rw [← HL.out]; exact hown4) hgrow4)
              have B9 := Lib.hid ((BI.out.alloc BI.out.size _).grown hgrow4 (by have := BI.out.size; simp; omega) (own_ge O.out))
              clear hown4 hgrow4
              go_roundw
              case measure => simp [intOf]; omega
              case rel => exact ⟨i + 1, by omega, by go_num, by rw [HT1.out]; exact S4.out, B9.out⟩
      · obtain rfl : n4 = i := by omega
        have hlt' : ¬ (n4 : Int) < n4 := by omega
        obtain ⟨A8, c8, rfl⟩ := hso.slice
        have SL : Hid (SigsOwn wr wz.heap.size (.slice A8 ((p.sigs.take n4).filter (namedB rs)).length c8) (p.sigs.filter (namedB rs))) := Lib.hid (by
          have := hso
          rw [show p.sigs.take n4 = p.sigs from List.take_of_length_le (by have := HN.out; omega)] at this ⊢
          exact this)
        generalize ((p.sigs.take n4).filter (namedB rs)).length = L at SL ⊢
        have tBY := below_set (BQ.out.trans (BV.out.mono BQ.out.size)) (show w.heap.size ≤ p6 by have := LW.out; omega) 4 (.slice A8 L c8)
        have tHY : CopyAt (wr.setCell ⟨p6, 4, none⟩ (.slice A8 L c8)) lo p6 #[.int .i64 p.ver, .int .i64 p.par, .slice U2 n2 f2, .slice U3 n3 f3, .slice A8 L c8, .slice A7 nr c7] (.slice U2 n2 f2) (.slice U3 n3 f3) (.slice A8 L c8) (.slice A7 nr c7) p (p.sigs.filter (namedB rs)) rs := (HW.out.left (SL.out.mono (show lo ≤ wz.heap.size by have := LW.out; have := heap_lt HC.out.x6; omega))).set 4 (.slice A8 L c8)
        have fz := frozen2_of HW.out.x6 4
        clear hso SO BV
        go_upto_region 20 with fail
        generalize wr.setCell ⟨p6, 4, none⟩ (.slice A8 L c8) = wy at tBY tHY ⊢
        have BY := Lib.hid tBY
        have HY := Lib.hid tHY
        clear tBY tHY fz k0 k1 k2 k3 k4 k5 HW SL HC BQ
        obtain ⟨k0, k1, k2, k3, k4, k5⟩ := cell6_of HY.out.x6
        by_cases hv : p.ver < 2147483647
        · have hvd : decide (p.ver < 2147483647) = true := decide_eq_true hv
          have HV := Lib.hid hv
          have hw1 : IntKind.i64.wrap (p.ver + 1) = p.ver + 1 := wrap_id (by have := PM.out.ver; omega) (by omega)
          have tBY := below_set BY.out (show w.heap.size ≤ p6 by have := LW.out; omega) 1 (.int .i64 p.ver)
          have tHY : CopyAt (wy.setCell ⟨p6, 1, none⟩ (.int .i64 p.ver)) lo p6 #[.int .i64 p.ver, .int .i64 p.ver, .slice U2 n2 f2, .slice U3 n3 f3, .slice A8 L c8, .slice A7 nr c7] (.slice U2 n2 f2) (.slice U3 n3 f3) (.slice A8 L c8) (.slice A7 nr c7) p (p.sigs.filter (namedB rs)) rs := HY.out.set 1 (.int .i64 p.ver)
          have fz := frozen2_of HY.out.x6 1
          go_upto_region 22 with fail
          generalize wy.setCell ⟨p6, 1, none⟩ (.int .i64 p.ver) = wx at tBY tHY ⊢
          clear BY HY fz k0 k1 k2 k3 k4 k5 hv hvd
          have BY := Lib.hid tBY
          have HY := Lib.hid tHY
          clear tBY tHY
          obtain ⟨k0, k1, k2, k3, k4, k5⟩ := cell6_of HY.out.x6
          have tBY := below_set BY.out (show w.heap.size ≤ p6 by have := LW.out; omega) 0 (.int .i64 (p.ver + 1))
          have tHY : CopyAt (wx.setCell ⟨p6, 0, none⟩ (.int .i64 (p.ver + 1))) lo p6 #[.int .i64 (p.ver + 1), .int .i64 p.ver, .slice U2 n2 f2, .slice U3 n3 f3, .slice A8 L c8, .slice A7 nr c7] (.slice U2 n2 f2) (.slice U3 n3 f3) (.slice A8 L c8) (.slice A7 nr c7) p (p.sigs.filter (namedB rs)) rs := HY.out.set 0 (.int .i64 (p.ver + 1))
          have fz := frozen2_of HY.out.x6 0
          go_upto_region 23 with fail
          generalize wx.setCell ⟨p6, 0, none⟩ (.int .i64 (p.ver + 1)) = wv at tBY tHY ⊢
          clear BY HY fz k0 k1 k2 k3 k4 k5 hw1
          have BY := Lib.hid tBY
          have HY := Lib.hid tHY
          clear tBY tHY
          have PE : Hid (fewP p kk = ⟨p.ver + 1, p.ver, p.secs, p.pts, p.sigs.filter (namedB rs), rs⟩) := Lib.hid (by rw [fewP, if_pos HV.out, if_pos HV.out, ← HRS.out])
          have CK0 : Hid (chk8 ⟨p.ver + 1, p.ver, p.secs, p.pts, p.sigs.filter (namedB rs), rs⟩ = 0) := Lib.hid (by rw [← PE.out, chk8, few_chk (planMay_true PM.out) kk]; rfl)
          obtain ⟨k0, k1, k2, k3, k4, k5⟩ := cell6_of HY.out.x6
          go_wp2_with fail
          refine (hp.check _ ⟨p.ver + 1, p.ver, p.secs, p.pts, p.sigs.filter (namedB rs), rs⟩ _ ⟨_, _, _, _, rfl, ⟨HY.out.secs.in_, HY.out.pts.in_ joinR_cells, HY.out.sigs.in_ sigR_cells, HY.out.routes.in_⟩⟩).mono ?_
          rintro e wf ⟨rfl, bf⟩
          have BF := Lib.hid (BY.out.trans (bf.mono BY.out.size))
          clear bf k0 k1 k2 k3 k4 k5
          rw [CK0.out]
          go_wp2_with fail
          go_ret
          exact ⟨rfl, BF.out⟩
        · have hvd : decide (p.ver < 2147483647) = false := decide_eq_false hv
          have HV := Lib.hid hv
          clear hv
          go_upto_region 23 with fail
          clear hvd k0 k1 k2 k3 k4 k5
          have PE : Hid (fewP p kk = ⟨p.ver, p.par, p.secs, p.pts, p.sigs.filter (namedB rs), rs⟩) := Lib.hid (by rw [fewP, if_neg HV.out, if_neg HV.out, ← HRS.out])
          have CK0 : Hid (chk8 ⟨p.ver, p.par, p.secs, p.pts, p.sigs.filter (namedB rs), rs⟩ = 0) := Lib.hid (by rw [← PE.out, chk8, few_chk (planMay_true PM.out) kk]; rfl)
          obtain ⟨k0, k1, k2, k3, k4, k5⟩ := cell6_of HY.out.x6
          go_wp2_with fail
          refine (hp.check _ ⟨p.ver, p.par, p.secs, p.pts, p.sigs.filter (namedB rs), rs⟩ _ ⟨_, _, _, _, rfl, ⟨HY.out.secs.in_, HY.out.pts.in_ joinR_cells, HY.out.sigs.in_ sigR_cells, HY.out.routes.in_⟩⟩).mono ?_
          rintro e wf ⟨rfl, bf⟩
          have BF := Lib.hid (BY.out.trans (bf.mono BY.out.size))
          clear bf k0 k1 k2 k3 k4 k5
          rw [CK0.out]
          go_wp2_with fail
          go_ret
          exact ⟨rfl, BF.out⟩
end Go.Proofs.Ythlolpflgninjaa
