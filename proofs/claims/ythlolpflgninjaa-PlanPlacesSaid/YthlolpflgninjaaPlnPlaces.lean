/-
  PlanPlaces: the walk, given the program's contracts.
  Conditions: none.
-/
import Derived.Test.YthlolpflgninjaaPlnAlive8
import Derived.Test.YthlolpflgninjaaPlnPlaceM
import Derived.BigQuiet
set_option linter.unusedVariables false
set_option linter.unusedSimpArgs false
set_option maxRecDepth 100000
namespace Go.Proofs.Ythlolpflgninjaa
open Go.RowKit

/-- Each section of a list is there, once. -/
def PlaceAll (p : Pl) (al : List Int) : Prop := ∀ i (hi : i < al.length), stE p al[i] 0 = 0 ∧ ∀ m (hm : m < i), al[m]'(by omega) ≠ al[i]
theorem place_route_ {p : Pl} (h : PlanMay p) {u : Nat} (hu : u < p.routes.length) {r : Rt} (hr : p.routes[u] = r) : elE p kSg p.sigs r.entry = 0 ∧ PlaceAll p ((elV p kSg p.sigs r.entry (0, 0, 0)).2.1 :: (r.path ++ r.over)) := by
  subst hr
  exact ⟨(place_route h u hu).1, (place_route h u hu).2⟩
set_option maxHeartbeats 16000000 in
theorem walk_plan_places (hp : PlanSaid) (v : Value) (p : Pl) (w : World) (h : PlanV w w.heap.size v p) :
    Calls Try.prog 6 #[v] w fun e w' => e = .returned (.bool true) ∧ Below w.heap.size w w' := by
  obtain ⟨y2, y3, y4, y5, rfl, hin⟩ := h
  have HIN0 := Lib.hid hin
  obtain ⟨A2, c2, rfl, hcl2, hcm2⟩ := hin.secs.slice
  obtain ⟨A3, c3, rfl, hcl3, hcm3⟩ := hin.pts.slice
  obtain ⟨A4, c4, rfl, hcl4, hcm4⟩ := hin.sigs.slice
  obtain ⟨A5, c5, rfl, hcl5, hcm5⟩ := hin.routes.slice
  unfold maxLen at hcm2 hcm3 hcm4 hcm5
  obtain ⟨n2, hn2⟩ : ∃ n, n = p.secs.length := ⟨_, rfl⟩
  obtain ⟨n3, hn3⟩ : ∃ n, n = p.pts.length := ⟨_, rfl⟩
  obtain ⟨n4, hn4⟩ : ∃ n, n = p.sigs.length := ⟨_, rfl⟩
  obtain ⟨n5, hn5⟩ : ∃ n, n = p.routes.length := ⟨_, rfl⟩
  have hm2 : n2 ≤ 9223372036854775807 := by omega
  have hm3 : n3 ≤ 9223372036854775807 := by omega
  have hm4 : n4 ≤ 9223372036854775807 := by omega
  have hm5 : n5 ≤ 9223372036854775807 := by omega
  have HCP : Hid (n2 ≤ c2 ∧ n3 ≤ c3 ∧ n4 ≤ c4 ∧ n5 ≤ c5) := Lib.hid (by omega)
  have HIN : Hid (PlIn w w.heap.size (.slice A2 n2 c2) (.slice A3 n3 c3) (.slice A4 n4 c4) (.slice A5 n5 c5) p) := Lib.hid (by rw [hn2, hn3, hn4, hn5]; exact HIN0.out)
  have HN : Hid (n2 = p.secs.length ∧ n3 = p.pts.length ∧ n4 = p.sigs.length ∧ n5 = p.routes.length) := Lib.hid ⟨hn2, hn3, hn4, hn5⟩
  rw [← hn2, ← hn3, ← hn4, ← hn5]
  clear hn2 hn3 hn4 hn5 HIN0 hin hcl2 hcm2 hcl3 hcm3 hcl4 hcm4 hcl5 hcm5
  have hq0 := heap_alloc_self w (.cells #[.int .i64 p.ver, .int .i64 p.par, .slice A2 n2 c2, .slice A3 n3 c3, .slice A4 n4 c4, .slice A5 n5 c5] 30)
  have hqb := below_new w (.cells #[.int .i64 p.ver, .int .i64 p.par, .slice A2 n2 c2, .slice A3 n3 c3, .slice A4 n4 c4, .slice A5 n5 c5] 30)
  go_enter Try.func6, Try.ntmps6
  go_upto_region 1 with fail
  generalize w.alloc (.cells #[.int .i64 p.ver, .int .i64 p.par, .slice A2 n2 c2, .slice A3 n3 c3, .slice A4 n4 c4, .slice A5 n5 c5] 30) = q at hq0 hqb ⊢
  have XP := Lib.hid hq0
  have BQ := Lib.hid hqb
  clear hq0 hqb
  go_wp2_with fail
  refine (alive8 hp q).mono ?_
  rintro e w1 ⟨rfl, b1⟩
  have tBQ := BQ.out.trans (b1.mono BQ.out.size)
  have tXP := (b1.block _ (heap_lt XP.out)).trans XP.out
  clear BQ XP b1
  have BQ := Lib.hid tBQ
  have XP := Lib.hid tXP
  clear tBQ tXP
  have HI := Lib.hid ((HIN.out.below BQ.out).more BQ.out.size)
  obtain ⟨k0, k1, k2, k3, k4, k5⟩ := cell6_of XP.out
  go_wp2_with fail
  refine (rgreat8_any _ p w1 ⟨_, _, _, _, rfl, HI.out⟩).mono ?_
  rintro e w2 ⟨⟨g, rfl, hg⟩, b1⟩
  clear k0 k1 k2 k3 k4 k5
  have tBQ := BQ.out.trans (b1.mono BQ.out.size)
  have tXP := (b1.block _ (heap_lt XP.out)).trans XP.out
  have tHI := (HI.out.below b1).more b1.size
  clear BQ XP HI b1
  have BQ := Lib.hid tBQ
  have XP := Lib.hid tXP
  have HI := Lib.hid tHI
  clear tBQ tXP tHI
  cases g with
  | true =>
    go_wp2_with fail
    go_ret
    exact ⟨rfl, BQ.out⟩
  | false =>
  have FP := Lib.hid (hg rfl)
  clear hg
  obtain ⟨k0, k1, k2, k3, k4, k5⟩ := cell6_of XP.out
  go_wp2_with fail
  refine (hp.check _ p w2 ⟨_, _, _, _, rfl, HI.out⟩).mono ?_
  rintro e w3 ⟨rfl, b1⟩
  clear k0 k1 k2 k3 k4 k5 HI
  have tBQ := BQ.out.trans (b1.mono BQ.out.size)
  have tXP := (b1.block _ (heap_lt XP.out)).trans XP.out
  clear BQ XP b1
  have BQ := Lib.hid tBQ
  have XP := Lib.hid tXP
  clear tBQ tXP
  have CB : Hid (planMay p = false → chk8 p = 8) := Lib.hid (fun h => by rw [chk8, h]; rfl)
  have CG : Hid (planMay p = true → chk8 p = 0) := Lib.hid (fun h => by rw [chk8, h]; rfl)
  generalize chk8 p = ck at CB CG ⊢
  cases hm : planMay p with
  | false =>
    obtain rfl := CB.out hm
    clear hm
    go_wp2_with fail
    go_ret
    exact ⟨rfl, BQ.out⟩
  | true =>
  obtain rfl := CG.out hm
  have PM := Lib.hid (planMay_iff.1 hm)
  clear hm CB CG
  go_wp2_with fail
  go_loopw [4] (fun s4 wr => ∃ u : Nat, u ≤ n3 ∧ s4 = .int .i64 u ∧ wr.heap[w.heap.size]? = some (.cells #[.int .i64 p.ver, .int .i64 p.par, .slice A2 n2 c2, .slice A3 n3 c3, .slice A4 n4 c4, .slice A5 n5 c5] 30 (0, 0)) ∧ Below w.heap.size w wr) (fun s4 _ => n3 - (intOf s4).toNat)
  case atStart => exact ⟨0, by omega, by go_num, XP.out, BQ.out⟩
  case round =>
    obtain ⟨u, hu, rfl, hxp, hb⟩ := hrel
    clear XP BQ
    have XP := Lib.hid hxp
    have BQ := Lib.hid hb
    clear hxp hb
    obtain ⟨k0, k1, k2, k3, k4, k5⟩ := cell6_of XP.out
    by_cases hlt : u < n3
    · have hlt' : (u : Int) < n3 := by omega
      have hur : u < p.pts.length := by rw [← HN.out.2.1]; exact hlt
      obtain ⟨kk, hkk, pe1, pe2, pe3, pu⟩ := place_pt PM.out u hur
      have hkn : kk < n2 := by rw [HN.out.1]; exact hkk
      obtain ⟨pa, pb, hpx⟩ : ∃ a b, p.pts[u] = (a, b) := ⟨_, _, rfl⟩
      rw [hpx] at pe1 pe2 pu
      have PX := Lib.hid hpx
      have PE : Hid (p.secs[kk].2.1 = pa ∧ p.secs[kk].1 = pb ∧ p.secs[kk].2.2.length = 3 ∧ ∀ j (hj : j < p.secs.length), p.secs[j].2.1 = pa → j = kk) := Lib.hid ⟨pe1, pe2, pe3, pu⟩
      have KN := Lib.hid hkn
      clear pe1 pe2 pe3 pu hpx hkn
      go_wp2_with fail
      clear k0 k1 k2 k3 k4 k5
      go_loopw [5, 6] (fun s5 s6 wr => ∃ (i : Nat) (mm : Int), i ≤ n2 ∧ s6 = .int .i64 i ∧ s5 = .int .i64 mm ∧ mm = (if kk < i then 1 else 0) ∧ wr.heap[w.heap.size]? = some (.cells #[.int .i64 p.ver, .int .i64 p.par, .slice A2 n2 c2, .slice A3 n3 c3, .slice A4 n4 c4, .slice A5 n5 c5] 30 (0, 0)) ∧ Below w.heap.size w wr) (fun _ s6 _ => n2 - (intOf s6).toNat)
      case atStart => exact ⟨0, 0, by omega, by go_num, by go_num, by rw [if_neg (by omega)], XP.out, BQ.out⟩
      case round =>
        obtain ⟨i, mm, hi, rfl, rfl, hmm, hxp, hb⟩ := hrel
        clear XP BQ
        have XP := Lib.hid hxp
        have BQ := Lib.hid hb
        clear hxp hb
        have MM := Lib.hid hmm
        clear hmm
        obtain ⟨k0, k1, k2, k3, k4, k5⟩ := cell6_of XP.out
        by_cases hl2 : i < n2
        · have hl2' : (i : Int) < n2 := by omega
          have hir : i < p.secs.length := by rw [← HN.out.1]; exact hl2
          obtain ⟨bk, off, rfl, hbk, hc0, hc1, u, hc2, hu⟩ := ((HIN.out.secs.below secR_ BQ.out).more secR_ BQ.out.size).at hir
          obtain ⟨B3, d3, rfl, hu1, hu2⟩ := hu.slice
          obtain ⟨a, pt, es, hx⟩ : ∃ a pt es, p.secs[i] = (a, pt, es) := ⟨_, _, _, rfl⟩
          have HX := Lib.hid hx
          rw [hx] at hc0 hc1 hc2 hu hu1
          dsimp only at hc0 hc1 hc2 hu hu1
          obtain ⟨m3, e3⟩ : ∃ m, m = es.length := ⟨_, rfl⟩
          rw [← e3] at hc2 hu hu1
          have HM := Lib.hid e3
          have HU := Lib.hid hu
          have hm3 : m3 ≤ 9223372036854775807 := by unfold maxLen at hu2; omega
          have hg0 : wr.cell? ⟨bk, off + i * 3, none⟩ = some (.int .i64 a) := hc0
          have hg1 : wr.cell? ⟨bk, off + i * 3 + 1, none⟩ = some (.int .i64 pt) := hc1
          have hg2 : wr.cell? ⟨bk, off + i * 3 + 2, none⟩ = some (.slice B3 m3 d3) := hc2
          clear hc0 hc1 hc2 hx hbk hu e3 hu1 hu2
          obtain ⟨bp, offp, rfl, hbp, hq0, hq1⟩ := ((HIN.out.pts.below joinR BQ.out).more joinR BQ.out.size).at hur
          rw [PX.out] at hq0 hq1
          have hp0 : wr.cell? ⟨bp, offp + u * 2, none⟩ = some (.int .i64 pa) := hq0
          have hp1 : wr.cell? ⟨bp, offp + u * 2 + 1, none⟩ = some (.int .i64 pb) := hq1
          clear hq0 hq1 hbp
          have FQ : Hid (∀ nq, (wr.drewN nq).heap[w.heap.size]? = wr.heap[w.heap.size]? ∧ Below w.heap.size w (wr.drewN nq) ∧ (wr.drewN nq).cell? ⟨bk, off + i * 3, none⟩ = some (.int .i64 a) ∧ (wr.drewN nq).cell? ⟨bk, off + i * 3 + 1, none⟩ = some (.int .i64 pt) ∧ (wr.drewN nq).cell? ⟨bk, off + i * 3 + 2, none⟩ = some (.slice B3 m3 d3) ∧ (wr.drewN nq).cell? ⟨bp, offp + u * 2, none⟩ = some (.int .i64 pa) ∧ (wr.drewN nq).cell? ⟨bp, offp + u * 2 + 1, none⟩ = some (.int .i64 pb)) := Lib.hid (fun nq => ⟨rfl, ⟨BQ.out.os, BQ.out.tape, BQ.out.output, BQ.out.size, BQ.out.block⟩, hg0, hg1, hg2, hp0, hp1⟩)
          go_upto_region 11 with fail
          by_cases he : pt = pa
          · have hd : (pt == pa) = true := by simpa using he
            have hik : i = kk := PE.out.2.2.2 i hir (by rw [HX.out]; exact he)
            have AB : Hid (a = pb ∧ m3 = 3) := Lib.hid (by
              have h1 := PE.out.2.1
              have h2 := PE.out.2.2.1
              subst hik
              rw [HX.out] at h1 h2
              exact ⟨h1, HM.out.trans h2⟩)
            have M0 : Hid (mm = 0) := Lib.hid (by rw [MM.out, if_neg (by omega)])
            have hab := AB.out.1
            have hm3e := AB.out.2
            have hm0 := M0.out
            have hdn : (a != pb) = false := by simpa using hab
            have IK := Lib.hid hik
            clear he hab hik
            go_quiet (fail)
            have hf := FQ.out nq
            rw [XP.out] at hf
            generalize wr.drewN nq = q7 at hf ⊢
            clear k0 k1 k2 k3 k4 k5 hg0 hg1 hg2 hp0 hp1 FQ
            obtain ⟨hx7, hb7, hg0, hg1, hg2, hp0, hp1⟩ := hf
            have X7 := Lib.hid hx7
            have FQ : Hid (∀ nq, (q7.drewN nq).heap[w.heap.size]? = q7.heap[w.heap.size]? ∧ Below w.heap.size w (q7.drewN nq)) := Lib.hid (fun nq => ⟨rfl, ⟨hb7.os, hb7.tape, hb7.output, hb7.size, hb7.block⟩⟩)
            obtain ⟨k0, k1, k2, k3, k4, k5⟩ := cell6_of hx7
            clear hx7 hb7
            subst hm0
            subst hm3e
            go_upto_region 13 with fail
            go_quiet (fail)
            have hf := FQ.out nq
            rw [X7.out] at hf
            generalize q7.drewN nq = q8 at hf ⊢
            have F8 := Lib.hid hf
            clear k0 k1 k2 k3 k4 k5 hg0 hg1 hg2 hp0 hp1 FQ hf
            go_wp2_with fail
            go_roundw
            case measure => simp [intOf]; omega
            case rel => exact ⟨i + 1, 1, by omega, by go_num, rfl, by rw [if_pos (by have := IK.out; omega)], F8.out.1, F8.out.2⟩
          · have hd : (pt == pa) = false := by simpa using he
            have NM : Hid (mm = (if kk < i + 1 then 1 else 0)) := Lib.hid (by
              have hne : i ≠ kk := fun h => he (by
                have h1 := PE.out.1
                subst h
                rw [HX.out] at h1
                exact h1)
              rw [MM.out]
              by_cases h : kk < i
              · rw [if_pos h, if_pos (by omega)]
              · rw [if_neg h, if_neg (by omega)])
            clear he
            go_quiet (fail)
            have hf := FQ.out nq
            rw [XP.out] at hf
            generalize wr.drewN nq = q7 at hf ⊢
            have F7 := Lib.hid hf
            clear k0 k1 k2 k3 k4 k5 hg0 hg1 hg2 hp0 hp1 FQ hf
            go_wp2_with fail
            go_roundw
            case measure => simp [intOf]; omega
            case rel => exact ⟨i + 1, mm, by omega, by go_num, rfl, NM.out, F7.out.1, F7.out.2.1⟩
        · obtain rfl : i = n2 := by omega
          have hl2' : ¬ (i : Int) < i := by omega
          have hm1 : mm = 1 := by rw [MM.out, if_pos KN.out]
          subst hm1
          go_wp2_with fail
          go_roundw
          case measure => simp [intOf]; omega
          case rel => exact ⟨u + 1, by omega, by go_num, XP.out, BQ.out⟩
    · obtain rfl : n3 = u := by omega
      have hlt' : ¬ (n3 : Int) < n3 := by omega
      go_wp2_with fail
      clear k0 k1 k2 k3 k4 k5
      go_loopw [7] (fun s7 wr => ∃ i : Nat, i ≤ n4 ∧ s7 = .int .i64 i ∧ wr.heap[w.heap.size]? = some (.cells #[.int .i64 p.ver, .int .i64 p.par, .slice A2 n2 c2, .slice A3 n3 c3, .slice A4 n4 c4, .slice A5 n5 c5] 30 (0, 0)) ∧ Below w.heap.size w wr) (fun s7 _ => n4 - (intOf s7).toNat)
      case atStart => exact ⟨0, by omega, by go_num, XP.out, BQ.out⟩
      case round =>
        obtain ⟨i, hi, rfl, hxp, hb⟩ := hrel
        clear XP BQ
        have XP := Lib.hid hxp
        have BQ := Lib.hid hb
        clear hxp hb
        obtain ⟨k0, k1, k2, k3, k4, k5⟩ := cell6_of XP.out
        by_cases hlt : i < n4
        · have hlt' : (i : Int) < n4 := by omega
          have hir : i < p.sigs.length := by rw [← HN.out.2.2.1]; exact hlt
          have HI := Lib.hid ((HIN.out.below BQ.out).more BQ.out.size)
          have PS := Lib.hid (place_sig PM.out i hir)
          obtain ⟨bk, off, rfl, hbk, hc0, hc1, hc2⟩ := ((HIN.out.sigs.below sigR BQ.out).more sigR BQ.out.size).at hir
          obtain ⟨a, b, c_, hx⟩ : ∃ a b c, p.sigs[i] = (a, b, c) := ⟨_, _, _, rfl⟩
          have HX := Lib.hid hx
          rw [hx] at hc0 hc1 hc2
          have hg0 : wr.cell? ⟨bk, off + i * 3, none⟩ = some (.int .i64 a) := hc0
          have hg1 : wr.cell? ⟨bk, off + i * 3 + 1, none⟩ = some (.int .i64 b) := hc1
          have hg2 : wr.cell? ⟨bk, off + i * 3 + 2, none⟩ = some (.int .i64 c_) := hc2
          clear hc0 hc1 hc2 hx hbk
          rw [HX.out] at PS
          dsimp only at PS
          go_upto_region 20 with fail
          refine wp_region_held_drew (S := fun v => Below wr.heap.size wr v) (by kernel_rfl) (Below.refl wr.heap.size wr).drew (fun hHeld => ?_)
          refine wpAnyH_take (i := 0) (v := ?_) rfl (by kernel_rfl) (by kernel_rfl) (by kernel_rfl) (fun _ _ _ h => h) (Or.inl ⟨by rfl, ?_⟩) hHeld ?_
          rotate_left
          · intro w' hSw; obtain ⟨cv0, cv1, cv2, cv3, cv4, cv5⟩ := cell6_of ((hSw.block _ (heap_lt XP.out)).trans XP.out); go_simp; try with_reducible rfl
          simp only [List.getElem_toArray, List.getElem_cons_succ, List.getElem_cons_zero, Act.put, List.setIfInBounds_toArray, List.set_cons_zero, List.set_cons_succ]
          refine wpAnyH_take (i := 1) (v := ?_) rfl (by kernel_rfl) (by kernel_rfl) (by kernel_rfl) (fun _ _ _ h => h) (Or.inl ⟨by rfl, ?_⟩) hHeld ?_
          rotate_left
          · intro w' hSw; go_simp; try with_reducible rfl
          simp only [List.getElem_toArray, List.getElem_cons_succ, List.getElem_cons_zero, Act.put, List.setIfInBounds_toArray, List.set_cons_zero, List.set_cons_succ]
          refine wpAnyH_take (i := 2) (v := ?_) rfl (by kernel_rfl) (by kernel_rfl) (by kernel_rfl) (fun _ _ _ h => h) (Or.inl ⟨by rfl, ?_⟩) hHeld ?_
          rotate_left
          · intro w' hSw; obtain ⟨cv0, cv1, cv2, cv3, cv4, cv5⟩ := cell6_of ((hSw.block _ (heap_lt XP.out)).trans XP.out); go_simp; try with_reducible rfl
          simp only [List.getElem_toArray, List.getElem_cons_succ, List.getElem_cons_zero, Act.put, List.setIfInBounds_toArray, List.set_cons_zero, List.set_cons_succ]
          refine wpAnyH_take (i := 3) (v := ?_) rfl (by kernel_rfl) (by kernel_rfl) (by kernel_rfl) (fun _ _ _ h => h) (Or.inl ⟨by rfl, ?_⟩) hHeld ?_
          rotate_left
          · intro w' hSw; go_simp; try with_reducible rfl
          simp only [List.getElem_toArray, List.getElem_cons_succ, List.getElem_cons_zero, Act.put, List.setIfInBounds_toArray, List.set_cons_zero, List.set_cons_succ]
          refine wpAnyH_take (i := 4) (v := ?_) rfl (by kernel_rfl) (by kernel_rfl) (by kernel_rfl) (fun _ _ _ h => h) (Or.inl ⟨by rfl, ?_⟩) hHeld ?_
          rotate_left
          · intro w' hSw; go_simp; try with_reducible rfl
          simp only [List.getElem_toArray, List.getElem_cons_succ, List.getElem_cons_zero, Act.put, List.setIfInBounds_toArray, List.set_cons_zero, List.set_cons_succ]
          refine wpAnyH_take (i := 5) (v := ?_) rfl (by kernel_rfl) (by kernel_rfl) (by kernel_rfl) (fun _ _ _ h => h) (Or.inl ⟨by rfl, ?_⟩) hHeld ?_
          rotate_left
          · intro w' hSw; go_simp; try with_reducible rfl
          simp only [List.getElem_toArray, List.getElem_cons_succ, List.getElem_cons_zero, Act.put, List.setIfInBounds_toArray, List.set_cons_zero, List.set_cons_succ]
          refine wpAnyH_take (i := 6) (v := ?_) rfl (by kernel_rfl) (by kernel_rfl) (by kernel_rfl) (fun _ _ _ h => h) (Or.inl ⟨by rfl, ?_⟩) hHeld ?_
          rotate_left
          · intro w' hSw; have ce := (hSw.cell (cell_lt hg1)).trans hg1; go_simp; try with_reducible rfl
          simp only [List.getElem_toArray, List.getElem_cons_succ, List.getElem_cons_zero, Act.put, List.setIfInBounds_toArray, List.set_cons_zero, List.set_cons_succ]
          refine wpAnyH_take (i := 7) (v := ?_) rfl (by kernel_rfl) (by kernel_rfl) (by kernel_rfl) (fun _ _ _ h => h) (Or.inl ⟨by rfl, ?_⟩) hHeld ?_
          rotate_left
          · intro w' hSw; go_simp; try with_reducible rfl
          simp only [List.getElem_toArray, List.getElem_cons_succ, List.getElem_cons_zero, Act.put, List.setIfInBounds_toArray, List.set_cons_zero, List.set_cons_succ]
          refine wpAnyH_take (i := 8) (v := ?_) rfl (by kernel_rfl) (by kernel_rfl) (by kernel_rfl) (fun _ _ _ h => h) (Or.inl ⟨by rfl, ?_⟩) hHeld ?_
          rotate_left
          · intro w' hSw; obtain ⟨cv0, cv1, cv2, cv3, cv4, cv5⟩ := cell6_of ((hSw.block _ (heap_lt XP.out)).trans XP.out); go_simp; try with_reducible rfl
          simp only [List.getElem_toArray, List.getElem_cons_succ, List.getElem_cons_zero, Act.put, List.setIfInBounds_toArray, List.set_cons_zero, List.set_cons_succ]
          refine wpAnyH_take (i := 9) (v := ?_) rfl (by kernel_rfl) (by kernel_rfl) (by kernel_rfl) (fun _ _ _ h => h) (Or.inl ⟨by rfl, ?_⟩) hHeld ?_
          rotate_left
          · intro w' hSw; go_simp; try with_reducible rfl
          simp only [List.getElem_toArray, List.getElem_cons_succ, List.getElem_cons_zero, Act.put, List.setIfInBounds_toArray, List.set_cons_zero, List.set_cons_succ]
          refine wpAnyH_take (i := 10) (v := ?_) rfl (by kernel_rfl) (by kernel_rfl) (by kernel_rfl) (fun _ _ _ h => h) (Or.inl ⟨by rfl, ?_⟩) hHeld ?_
          rotate_left
          · intro w' hSw; go_simp; try with_reducible rfl
          simp only [List.getElem_toArray, List.getElem_cons_succ, List.getElem_cons_zero, Act.put, List.setIfInBounds_toArray, List.set_cons_zero, List.set_cons_succ]
          refine wpAnyH_take (i := 11) (v := ?_) rfl (by kernel_rfl) (by kernel_rfl) (by kernel_rfl) (fun _ _ _ h => h) (Or.inl ⟨by rfl, ?_⟩) hHeld ?_
          rotate_left
          · intro w' hSw; go_simp; try with_reducible rfl
          simp only [List.getElem_toArray, List.getElem_cons_succ, List.getElem_cons_zero, Act.put, List.setIfInBounds_toArray, List.set_cons_zero, List.set_cons_succ]
          refine wpAnyH_take (i := 12) (v := ?_) rfl (by kernel_rfl) (by kernel_rfl) (by kernel_rfl) (fun _ _ _ h => h) (Or.inl ⟨by rfl, ?_⟩) hHeld ?_
          rotate_left
          · intro w' hSw; have ce := (hSw.cell (cell_lt hg2)).trans hg2; go_simp; try with_reducible rfl
          simp only [List.getElem_toArray, List.getElem_cons_succ, List.getElem_cons_zero, Act.put, List.setIfInBounds_toArray, List.set_cons_zero, List.set_cons_succ]
          refine wpAnyH_ready (rs := [13]) (by kernel_rfl) (by simp) ?_
          refine AllReadyH.cons rfl (fun K hK => ?_) AllReadyH.nil
          go_simp
          refine (hp.stands _ p b c_ wr.drew ⟨_, _, _, _, rfl, HI.out.below (Below.refl wr.heap.size wr).drew⟩).mono ?_
          rintro e wA ⟨rfl, bA⟩
          have SA : Hid (Below wr.heap.size wr wA) := Lib.hid ((Below.refl wr.heap.size wr).drew.trans bA)
          clear bA
          try go_wp2_with fail
          refine hK.out _ _ ?_ (fun hHeld => ?_)
          · exact SA.out
          clear hK K
          try simp only [List.getElem_toArray, List.getElem_cons_succ, List.getElem_cons_zero, Act.put, List.setIfInBounds_toArray, List.set_cons_zero, List.set_cons_succ]
          refine wpAnyH_take (i := 14) (v := ?_) rfl (by kernel_rfl) (by kernel_rfl) (by kernel_rfl) (fun _ _ _ h => h) (Or.inl ⟨by rfl, ?_⟩) hHeld ?_
          rotate_left
          · intro w' hSw; go_simp; try with_reducible rfl
          simp only [List.getElem_toArray, List.getElem_cons_succ, List.getElem_cons_zero, Act.put, List.setIfInBounds_toArray, List.set_cons_zero, List.set_cons_succ]
          refine wpAnyH_take (i := 15) (v := ?_) rfl (by kernel_rfl) (by kernel_rfl) (by kernel_rfl) (fun _ _ _ h => h) (Or.inl ⟨by rfl, ?_⟩) hHeld ?_
          rotate_left
          · intro w' hSw; go_simp; try with_reducible rfl
          simp only [List.getElem_toArray, List.getElem_cons_succ, List.getElem_cons_zero, Act.put, List.setIfInBounds_toArray, List.set_cons_zero, List.set_cons_succ]
          refine wpAnyH_take (i := 16) (v := ?_) rfl (by kernel_rfl) (by kernel_rfl) (by kernel_rfl) (fun _ _ _ h => h) (Or.inl ⟨by rfl, ?_⟩) hHeld ?_
          rotate_left
          · intro w' hSw; go_simp; try with_reducible rfl
          simp only [List.getElem_toArray, List.getElem_cons_succ, List.getElem_cons_zero, Act.put, List.setIfInBounds_toArray, List.set_cons_zero, List.set_cons_succ]
          refine wpAnyH_take (i := 17) (v := ?_) rfl (by kernel_rfl) (by kernel_rfl) (by kernel_rfl) (fun _ _ _ h => h) (Or.inl ⟨by rfl, ?_⟩) hHeld ?_
          rotate_left
          · intro w' hSw; go_simp; try with_reducible rfl
          simp only [List.getElem_toArray, List.getElem_cons_succ, List.getElem_cons_zero, Act.put, List.setIfInBounds_toArray, List.set_cons_zero, List.set_cons_succ]
          refine wpAnyH_take (i := 18) (v := ?_) rfl (by kernel_rfl) (by kernel_rfl) (by kernel_rfl) (fun _ _ _ h => h) (Or.inl ⟨by rfl, ?_⟩) hHeld ?_
          rotate_left
          · intro w' hSw; go_simp; try with_reducible rfl
          simp only [List.getElem_toArray, List.getElem_cons_succ, List.getElem_cons_zero, Act.put, List.setIfInBounds_toArray, List.set_cons_zero, List.set_cons_succ]
          refine wpAnyH_done (by kernel_rfl) ?_ _
          have b1 := SA.out
          have hg0' := (b1.cell (cell_lt hg0)).trans hg0
          clear hg0 hg1 hg2 k0 k1 k2 k3 k4 k5
          have tBQ := BQ.out.trans (b1.mono BQ.out.size)
          have tXP := (b1.block _ (heap_lt XP.out)).trans XP.out
          clear BQ XP b1
          have BQ := Lib.hid tBQ
          have XP := Lib.hid tXP
          clear tBQ tXP
          obtain ⟨k0, k1, k2, k3, k4, k5⟩ := cell6_of XP.out
          have hst := PS.out.1
          have hsn := PS.out.2
          go_wp2_with fail
          clear hst hsn k0 k1 k2 k3 k4 k5
          go_roundw
          case measure => simp [intOf]; omega
          case rel => exact ⟨i + 1, by omega, by go_num, XP.out, BQ.out⟩
        · obtain rfl : n4 = i := by omega
          have hlt' : ¬ (n4 : Int) < n4 := by omega
          go_wp2_with fail
          clear k0 k1 k2 k3 k4 k5
          go_loopw [10] (fun s10 wr => ∃ i : Nat, i ≤ n5 ∧ s10 = .int .i64 i ∧ wr.heap[w.heap.size]? = some (.cells #[.int .i64 p.ver, .int .i64 p.par, .slice A2 n2 c2, .slice A3 n3 c3, .slice A4 n4 c4, .slice A5 n5 c5] 30 (0, 0)) ∧ Below w.heap.size w wr) (fun s10 _ => n5 - (intOf s10).toNat)
          case atStart => exact ⟨0, by omega, by go_num, XP.out, BQ.out⟩
          case round =>
            obtain ⟨i, hi, rfl, hxp, hb⟩ := hrel
            clear XP BQ
            have XP := Lib.hid hxp
            have BQ := Lib.hid hb
            clear hxp hb
            obtain ⟨k0, k1, k2, k3, k4, k5⟩ := cell6_of XP.out
            by_cases hlt : i < n5
            · have hlt' : (i : Int) < n5 := by omega
              have hir : i < p.routes.length := by rw [← HN.out.2.2.2]; exact hlt
              obtain ⟨bk, off, rfl, hbk, hc0, hc1, hc2, hc6, u3, u4, u5, hc3, hc4, hc5, hr⟩ := ((HIN.out.routes.below routeR BQ.out).more routeR BQ.out.size).at hir
              obtain ⟨B3, d3, rfl, -, -⟩ := hr.path.slice
              obtain ⟨B4, d4, rfl, -, -⟩ := hr.over.slice
              obtain ⟨B5, d5, rfl, -, -⟩ := hr.flanks.slice
              obtain ⟨a, en, ex, lp, lo, lf, tm, hx⟩ : ∃ a en ex lp lo lf tm, p.routes[i] = (⟨a, en, ex, lp, lo, lf, tm⟩ : Rt) := ⟨_, _, _, _, _, _, _, rfl⟩
              have HX := Lib.hid hx
              rw [hx] at hc0 hc1 hc2 hc3 hc4 hc5 hc6 hr
              dsimp only at hc0 hc1 hc2 hc3 hc4 hc5 hc6 hr
              obtain ⟨m3, e3⟩ : ∃ m, m = lp.length := ⟨_, rfl⟩
              obtain ⟨m4, e4⟩ : ∃ m, m = lo.length := ⟨_, rfl⟩
              obtain ⟨m5, e5⟩ : ∃ m, m = lf.length := ⟨_, rfl⟩
              rw [← e3] at hc3 hr
              rw [← e4] at hc4 hr
              rw [← e5] at hc5 hr
              have HR := Lib.hid hr
              have HM : Hid (m3 = lp.length ∧ m4 = lo.length ∧ m5 = lf.length) := Lib.hid ⟨e3, e4, e5⟩
              have hg0 : wr.cell? ⟨bk, off + i * 7, none⟩ = some (.int .i64 a) := hc0
              have hg1 : wr.cell? ⟨bk, off + i * 7 + 1, none⟩ = some (.int .i64 en) := hc1
              have hg2 : wr.cell? ⟨bk, off + i * 7 + 2, none⟩ = some (.int .i64 ex) := hc2
              have hg3 : wr.cell? ⟨bk, off + i * 7 + 3, none⟩ = some (.slice B3 m3 d3) := hc3
              have hg4 : wr.cell? ⟨bk, off + i * 7 + 4, none⟩ = some (.slice B4 m4 d4) := hc4
              have hg5 : wr.cell? ⟨bk, off + i * 7 + 5, none⟩ = some (.slice B5 m5 d5) := hc5
              have hg6 : wr.cell? ⟨bk, off + i * 7 + 6, none⟩ = some (.int .i64 tm) := hc6
              clear hc0 hc1 hc2 hc3 hc4 hc5 hc6 hx hbk hr e3 e4 e5
              have PR := Lib.hid (place_route_ PM.out hir HX.out)
              dsimp only at PR
              obtain ⟨q1, hq⟩ : ∃ x, x = wr.alloc (.cells #[.int .i64 a, .int .i64 en, .int .i64 ex, .slice B3 m3 d3, .slice B4 m4 d4, .slice B5 m5 d5, .int .i64 tm] 35) := ⟨_, rfl⟩
              have x1 := heap_alloc_self wr (.cells #[.int .i64 a, .int .i64 en, .int .i64 ex, .slice B3 m3 d3, .slice B4 m4 d4, .slice B5 m5 d5, .int .i64 tm] 35)
              have b1 := below_new wr (.cells #[.int .i64 a, .int .i64 en, .int .i64 ex, .slice B3 m3 d3, .slice B4 m4 d4, .slice B5 m5 d5, .int .i64 tm] 35)
              rw [← hq] at x1 b1
              go_upto_region 27 with fail
              rw [← hq]
              have X11 := Lib.hid x1
              have HRV := Lib.hid ((HR.out.below b1).more b1.size)
              generalize wr.heap.size = p11 at X11 ⊢
              clear x1 hq HR hg0 hg1 hg2 hg3 hg4 hg5 hg6 k0 k1 k2 k3 k4 k5
              have tBQ := BQ.out.trans (b1.mono BQ.out.size)
              have tXP := (b1.block _ (heap_lt XP.out)).trans XP.out
              clear BQ XP b1
              have BQ := Lib.hid tBQ
              have XP := Lib.hid tXP
              clear tBQ tXP
              have HI := Lib.hid ((HIN.out.below BQ.out).more BQ.out.size)
              obtain ⟨k0, k1, k2, k3, k4, k5⟩ := cell6_of XP.out
              obtain ⟨r0, r1, r2, r3, r4, r5, r6⟩ := cell7_of X11.out
              go_wp2_with fail
              refine (hp.signal _ p en q1 ⟨_, _, _, _, rfl, HI.out⟩).mono ?_
              rintro e w5 ⟨rfl, b1⟩
              clear k0 k1 k2 k3 k4 k5 r0 r1 r2 r3 r4 r5 r6 HI
              have tBQ := BQ.out.trans (b1.mono BQ.out.size)
              have tXP := (b1.block _ (heap_lt XP.out)).trans XP.out
              have tX11 := (b1.block _ (heap_lt X11.out)).trans X11.out
              have tHRV := (HRV.out.below b1).more b1.size
              clear BQ XP X11 HRV b1
              have BQ := Lib.hid tBQ
              have XP := Lib.hid tXP
              have X11 := Lib.hid tX11
              have HRV := Lib.hid tHRV
              clear tBQ tXP tX11 tHRV
              have he0 := PR.out.1
              have PRS := Lib.hid PR.out.2
              generalize elE p kSg p.sigs en = ee at he0 ⊢
              subst he0
              generalize elV p kSg p.sigs en (0, 0, 0) = S at PRS ⊢
              obtain ⟨g0, g1, g2⟩ := S
              clear PR
              dsimp only at PRS ⊢
              obtain ⟨q2, hq⟩ : ∃ x, x = w5.alloc (.cells #[.int .i64 g0, .int .i64 g1, .int .i64 g2] 49) := ⟨_, rfl⟩
              have x1 := heap_alloc_self w5 (.cells #[.int .i64 g0, .int .i64 g1, .int .i64 g2] 49)
              have b1 := below_new w5 (.cells #[.int .i64 g0, .int .i64 g1, .int .i64 g2] 49)
              rw [← hq] at x1 b1
              go_upto_region 28 with fail
              rw [← hq]
              have X12 := Lib.hid x1
              generalize w5.heap.size = p12 at X12 ⊢
              clear x1 hq
              have tBQ := BQ.out.trans (b1.mono BQ.out.size)
              have tXP := (b1.block _ (heap_lt XP.out)).trans XP.out
              have tX11 := (b1.block _ (heap_lt X11.out)).trans X11.out
              have tHRV := (HRV.out.below b1).more b1.size
              clear BQ XP X11 HRV b1
              have BQ := Lib.hid tBQ
              have XP := Lib.hid tXP
              have X11 := Lib.hid tX11
              have HRV := Lib.hid tHRV
              clear tBQ tXP tX11 tHRV
              go_upto_region 30 with fail
              obtain ⟨i0, hii, hz0, hz1, hz2⟩ := info_parts infoInt
              have I0 := Lib.hid hii
              have I1 := Lib.hid hz0
              have I2 := Lib.hid hz1
              have I3 := Lib.hid hz2
              have LN : Hid ((1 ≤ m3 ∧ m3 ≤ 20) ∧ m4 ≤ 20) := Lib.hid (by
                have h1 := ((PM.out.each i hir).2.2).path
                have h2 := ((PM.out.each i hir).2.2).over
                rw [HX.out] at h1 h2
                dsimp only at h1 h2
                rw [← HM.out.1] at h1
                rw [← HM.out.2.1] at h2
                omega)
              clear hii hz0 hz1 hz2
              refine wp_region_held_drew (S := fun v => Below q2.heap.size q2 v) (by kernel_rfl) (Below.refl q2.heap.size q2).drew (fun hHeld => ?_)
              refine wpAnyH_take (i := 0) (v := ?_) rfl (by kernel_rfl) (by kernel_rfl) (by kernel_rfl) (fun _ _ _ h => h) (Or.inl ⟨by rfl, ?_⟩) hHeld ?_
              rotate_left
              · intro w' hSw; go_simp; try with_reducible rfl
              simp only [List.getElem_toArray, List.getElem_cons_succ, List.getElem_cons_zero, Act.put, List.setIfInBounds_toArray, List.set_cons_zero, List.set_cons_succ]
              refine wpAnyH_take (i := 1) (v := ?_) rfl (by kernel_rfl) (by kernel_rfl) (by kernel_rfl) (fun _ _ _ h => h) (Or.inl ⟨by rfl, ?_⟩) hHeld ?_
              rotate_left
              · intro w' hSw; obtain ⟨cs0, cs1, cs2⟩ := cell3_of ((hSw.block _ (heap_lt X12.out)).trans X12.out); go_simp; try with_reducible rfl
              simp only [List.getElem_toArray, List.getElem_cons_succ, List.getElem_cons_zero, Act.put, List.setIfInBounds_toArray, List.set_cons_zero, List.set_cons_succ]
              refine wpAnyH_take (i := 3) (v := ?_) rfl (by kernel_rfl) (by kernel_rfl) (by kernel_rfl) (fun _ _ _ h => h) (Or.inl ⟨by rfl, ?_⟩) hHeld ?_
              rotate_left
              · intro w' hSw; go_simp; try with_reducible rfl
              simp only [List.getElem_toArray, List.getElem_cons_succ, List.getElem_cons_zero, Act.put, List.setIfInBounds_toArray, List.set_cons_zero, List.set_cons_succ]
              refine wpAnyH_take (i := 4) (v := ?_) rfl (by kernel_rfl) (by kernel_rfl) (by kernel_rfl) (fun _ _ _ h => h) (Or.inl ⟨by rfl, ?_⟩) hHeld ?_
              rotate_left
              · intro w' hSw; obtain ⟨cr0, cr1, cr2, cr3, cr4, cr5, cr6⟩ := cell7_of ((hSw.block _ (heap_lt X11.out)).trans X11.out); go_simp; try with_reducible rfl
              simp only [List.getElem_toArray, List.getElem_cons_succ, List.getElem_cons_zero, Act.put, List.setIfInBounds_toArray, List.set_cons_zero, List.set_cons_succ]
              refine wpAnyH_take (i := 6) (v := ?_) rfl (by kernel_rfl) (by kernel_rfl) (by kernel_rfl) (fun _ _ _ h => h) (Or.inl ⟨by rfl, ?_⟩) hHeld ?_
              rotate_left
              · intro w' hSw; go_simp; try with_reducible rfl
              simp only [List.getElem_toArray, List.getElem_cons_succ, List.getElem_cons_zero, Act.put, List.setIfInBounds_toArray, List.set_cons_zero, List.set_cons_succ]
              refine wpAnyH_take (i := 7) (v := ?_) rfl (by kernel_rfl) (by kernel_rfl) (by kernel_rfl) (fun _ _ _ h => h) (Or.inl ⟨by rfl, ?_⟩) hHeld ?_
              rotate_left
              · intro w' hSw; obtain ⟨cr0, cr1, cr2, cr3, cr4, cr5, cr6⟩ := cell7_of ((hSw.block _ (heap_lt X11.out)).trans X11.out); go_simp; try with_reducible rfl
              simp only [List.getElem_toArray, List.getElem_cons_succ, List.getElem_cons_zero, Act.put, List.setIfInBounds_toArray, List.set_cons_zero, List.set_cons_succ]
              refine wpAnyH_ready (rs := [2]) (by kernel_rfl) (by simp) ?_
              refine AllReadyH.cons rfl (fun K hK => ?_) AllReadyH.nil
              go_simp
              have SA : Hid (Below q2.heap.size q2 (q2.alloc (.cells #[.int .i64 g1] 3)).drew) := Lib.hid (below_new q2 (.cells #[.int .i64 g1] 3)).drew
              have OA : Hid ((q2.alloc (.cells #[.int .i64 g1] 3)).drew.ownsRow q2.heap.size 3 1 (.slice (some ⟨q2.heap.size, 0, none⟩) 1 1) 1 [.int .i64 g1]) := Lib.hid ⟨rfl, .inr ⟨q2.heap.size, 1, #[.int .i64 g1], rfl, Nat.le_refl _, heap_alloc_self q2 _, Nat.le_refl _, by unfold maxLen; omega, rfl, rfl⟩⟩
              refine hK.out _ _ ?_ (fun hHeld => ?_)
              · exact SA.out
              clear hK K
              try simp only [List.getElem_toArray, List.getElem_cons_succ, List.getElem_cons_zero, Act.put, List.setIfInBounds_toArray, List.set_cons_zero, List.set_cons_succ]
              generalize (q2.alloc (.cells #[.int .i64 g1] 3)).drew = wA at SA OA hHeld ⊢
              obtain ⟨yss, hy1, hy2, hy3, hy4, hy5, hy6, hy7⟩ := ((HRV.out.path.below intR SA.out).more intR SA.out.size).cells (by omega) intR_full intR_cells
              have Y1 := Lib.hid hy1
              have Y2 := Lib.hid hy2
              have Y3 := Lib.hid hy3
              have Y4 := Lib.hid hy4
              have Y6 := Lib.hid hy6
              have Y7 := Lib.hid hy7
              have YL : Hid (yss.flatten.length = m3 * 1) := Lib.hid (by rw [flat_length _ hy2, hy1, HM.out.1])
              clear hy1 hy2 hy3 hy4 hy5 hy6 hy7
              refine wpAnyH_ready (rs := [5]) (by kernel_rfl) (by simp) ?_
              refine AllReadyH.cons rfl (fun K hK => ?_) AllReadyH.nil
              rw [if_pos (by rfl)]
              refine wp_append_list (.tmp 145) (.tmp 147) _ rfl Try.underlying32 I0.out I1.out rfl I2.out (by decide) I3.out (by decide) rfl OA.out rfl YL.out Y4.out Y7.out Y6.out (by have := LN.out; omega) SA.out.size ?_
              intro v6 w6 hown6 hgrow6
              obtain ⟨D6, f6, rfl⟩ := own_sliceN hown6
              have O6 := Lib.hid hown6
              have S6 := Lib.hid (SA.out.grown hgrow6 SA.out.size (own_ge OA.out))
              clear hown6 hgrow6
              refine hK.out _ _ ?_ (fun hHeld => ?_)
              · exact S6.out
              clear hK K
              try simp only [List.getElem_toArray, List.getElem_cons_succ, List.getElem_cons_zero, Act.put, List.setIfInBounds_toArray, List.set_cons_zero, List.set_cons_succ]
              obtain ⟨zss, hy1, hy2, hy3, hy4, hy5, hy6, hy7⟩ := ((HRV.out.over.below intR S6.out).more intR S6.out.size).cells (by omega) intR_full intR_cells
              have Z1 := Lib.hid hy1
              have Z2 := Lib.hid hy2
              have Z3 := Lib.hid hy3
              have Z4 := Lib.hid hy4
              have Z6 := Lib.hid hy6
              have Z7 := Lib.hid hy7
              have ZL : Hid (zss.flatten.length = m4 * 1) := Lib.hid (by rw [flat_length _ hy2, hy1, HM.out.2.1])
              clear hy1 hy2 hy3 hy4 hy5 hy6 hy7
              refine wpAnyH_ready (rs := [8]) (by kernel_rfl) (by simp) ?_
              refine AllReadyH.cons rfl (fun K hK => ?_) AllReadyH.nil
              rw [if_pos (by rfl)]
              refine wp_append_list (.tmp 148) (.tmp 150) _ rfl Try.underlying32 I0.out I1.out rfl I2.out (by decide) I3.out (by decide) rfl O6.out rfl ZL.out Z4.out Z7.out Z6.out (by have := LN.out; omega) S6.out.size ?_
              intro v7 w7 hown7 hgrow7
              have O7 : Hid (w7.ownsRow q2.heap.size 3 1 v7 (1 + m3 + m4) ([.int .i64 g1] ++ yss.flatten ++ zss.flatten)) := Lib.hid hown7
              have S7 := Lib.hid (S6.out.grown hgrow7 S6.out.size (own_ge O6.out))
              clear hown7 hgrow7
              obtain ⟨N, hN⟩ : ∃ N, N = 1 + m3 + m4 := ⟨_, rfl⟩
              have AL : Hid (IntsIn w7 w7.heap.size v7 (g1 :: (lp ++ lo)) ∧ N = (g1 :: (lp ++ lo)).length) := Lib.hid (by
                have hc := own_cat (R := IntR) (sz := 1) (yss := [.int .i64 g1] :: yss) (l := g1 :: lp) intF (by have := O7.out; simpa using this) (show 1 + m3 + m4 = (g1 :: lp).length + lo.length by rw [List.length_cons, ← HM.out.1, ← HM.out.2.1]; omega) (show ([.int .i64 g1] :: yss).length = (g1 :: lp).length by simp [Y1.out]) Z1.out (fun ys h => by
                  rcases List.mem_cons.1 h with rfl | h
                  · rfl
                  · exact Y2.out ys h) Z2.out (W1 := wA) (B1 := wA.heap.size) (fun j ys x h1 h2 => by
                  cases j with
                  | zero => cases h1; cases h2; exact rfl
                  | succ j => exact Y3.out j ys x (by simpa using h1) (by simpa using h2)) Z3.out (by have := LN.out; unfold maxLen; omega)
                exact ⟨hc.in_ intR_cells, by rw [hN, List.length_cons, List.length_append, ← HM.out.1, ← HM.out.2.1]; omega⟩)
              have NB : Hid (N ≤ 1000) := Lib.hid (by have := LN.out; omega)
              obtain ⟨A9, c9, rfl⟩ := own_sliceN O7.out
              rw [← hN] at AL ⊢
              clear hN O7 O6 Z1 Z2 Z3 Z4 Z6 Z7 ZL Y1 Y2 Y3 Y4 Y6 Y7 YL OA
              refine hK.out _ _ ?_ (fun hHeld => ?_)
              · exact S7.out
              clear hK K
              try simp only [List.getElem_toArray, List.getElem_cons_succ, List.getElem_cons_zero, Act.put, List.setIfInBounds_toArray, List.set_cons_zero, List.set_cons_succ]
              refine wpAnyH_take (i := 9) (v := ?_) rfl (by kernel_rfl) (by kernel_rfl) (by kernel_rfl) (fun _ _ _ h => h) (Or.inl ⟨by rfl, ?_⟩) hHeld ?_
              rotate_left
              · intro w' hSw; go_simp; try with_reducible rfl
              simp only [List.getElem_toArray, List.getElem_cons_succ, List.getElem_cons_zero, Act.put, List.setIfInBounds_toArray, List.set_cons_zero, List.set_cons_succ]
              refine wpAnyH_done (by kernel_rfl) ?_ _
              have b1 := S7.out
              clear SA S6 S7 X12 X11 HRV
              have tBQ := BQ.out.trans (b1.mono BQ.out.size)
              have tXP := (b1.block _ (heap_lt XP.out)).trans XP.out
              clear BQ XP b1
              have BQ := Lib.hid tBQ
              have XP := Lib.hid tXP
              clear tBQ tXP
              obtain ⟨al, hal⟩ : ∃ x, x = g1 :: (lp ++ lo) := ⟨_, rfl⟩
              rw [← hal] at AL PRS
              have AI := Lib.hid AL.out.1
              have ANN := Lib.hid AL.out.2
              have hNm : N ≤ 9223372036854775807 := by have := NB.out; omega
              clear AL hal LN
              go_wp2_with fail
              go_loopw [15] (fun s15 wr => ∃ j : Nat, j ≤ N ∧ s15 = .int .i64 j ∧ Below w7.heap.size w7 wr) (fun s15 _ => N - (intOf s15).toNat)
              case atStart => exact ⟨0, by omega, by go_num, Below.refl _ _⟩
              case round =>
                obtain ⟨j, hj, rfl, hb⟩ := hrel
                have BV := Lib.hid hb
                have YP := Lib.hid ((hb.block _ (heap_lt XP.out)).trans XP.out)
                have AV := Lib.hid ((AI.out.below intR hb).more intR hb.size)
                have BT := Lib.hid (BQ.out.trans (hb.mono BQ.out.size))
                have HI := Lib.hid ((HIN.out.below BT.out).more BT.out.size)
                clear hb
                obtain ⟨k0, k1, k2, k3, k4, k5⟩ := cell6_of YP.out
                by_cases hl5 : j < N
                · have hl5' : (j : Int) < N := by omega
                  have hjr : j < al.length := by rw [← ANN.out]; exact hl5
                  have PJ := Lib.hid (PRS.out j hjr)
                  obtain ⟨bk, off, rfl, hbk, hc0⟩ := AV.out.at hjr
                  obtain ⟨z, hz⟩ : ∃ z, z = al[j] := ⟨_, rfl⟩
                  have hg0 : wr.cell? ⟨bk, off + j, none⟩ = some (.int .i64 z) := by rw [hz]; simpa [IntR] using hc0
                  rw [← hz] at PJ
                  have HZ := Lib.hid hz
                  clear hc0 hz hbk
                  go_upto_region 34 with fail
                  refine wp_region_held_drew (S := fun v => Below wr.heap.size wr v) (by kernel_rfl) (Below.refl wr.heap.size wr).drew (fun hHeld => ?_)
                  refine wpAnyH_take (i := 0) (v := ?_) rfl (by kernel_rfl) (by kernel_rfl) (by kernel_rfl) (fun _ _ _ h => h) (Or.inl ⟨by rfl, ?_⟩) hHeld ?_
                  rotate_left
                  · intro w' hSw; obtain ⟨cv0, cv1, cv2, cv3, cv4, cv5⟩ := cell6_of ((hSw.block _ (heap_lt YP.out)).trans YP.out); go_simp; try with_reducible rfl
                  simp only [List.getElem_toArray, List.getElem_cons_succ, List.getElem_cons_zero, Act.put, List.setIfInBounds_toArray, List.set_cons_zero, List.set_cons_succ]
                  refine wpAnyH_take (i := 1) (v := ?_) rfl (by kernel_rfl) (by kernel_rfl) (by kernel_rfl) (fun _ _ _ h => h) (Or.inl ⟨by rfl, ?_⟩) hHeld ?_
                  rotate_left
                  · intro w' hSw; go_simp; try with_reducible rfl
                  simp only [List.getElem_toArray, List.getElem_cons_succ, List.getElem_cons_zero, Act.put, List.setIfInBounds_toArray, List.set_cons_zero, List.set_cons_succ]
                  refine wpAnyH_take (i := 2) (v := ?_) rfl (by kernel_rfl) (by kernel_rfl) (by kernel_rfl) (fun _ _ _ h => h) (Or.inl ⟨by rfl, ?_⟩) hHeld ?_
                  rotate_left
                  · intro w' hSw; go_simp; try with_reducible rfl
                  simp only [List.getElem_toArray, List.getElem_cons_succ, List.getElem_cons_zero, Act.put, List.setIfInBounds_toArray, List.set_cons_zero, List.set_cons_succ]
                  refine wpAnyH_take (i := 3) (v := ?_) rfl (by kernel_rfl) (by kernel_rfl) (by kernel_rfl) (fun _ _ _ h => h) (Or.inl ⟨by rfl, ?_⟩) hHeld ?_
                  rotate_left
                  · intro w' hSw; go_simp; try with_reducible rfl
                  simp only [List.getElem_toArray, List.getElem_cons_succ, List.getElem_cons_zero, Act.put, List.setIfInBounds_toArray, List.set_cons_zero, List.set_cons_succ]
                  refine wpAnyH_take (i := 4) (v := ?_) rfl (by kernel_rfl) (by kernel_rfl) (by kernel_rfl) (fun _ _ _ h => h) (Or.inl ⟨by rfl, ?_⟩) hHeld ?_
                  rotate_left
                  · intro w' hSw; have ce := (hSw.cell (cell_lt hg0)).trans hg0; go_simp; try with_reducible rfl
                  simp only [List.getElem_toArray, List.getElem_cons_succ, List.getElem_cons_zero, Act.put, List.setIfInBounds_toArray, List.set_cons_zero, List.set_cons_succ]
                  refine wpAnyH_ready (rs := [5]) (by kernel_rfl) (by simp) ?_
                  refine AllReadyH.cons rfl (fun K hK => ?_) AllReadyH.nil
                  go_simp
                  refine (hp.stands _ p z 0 wr.drew ⟨_, _, _, _, rfl, HI.out.below (Below.refl wr.heap.size wr).drew⟩).mono ?_
                  rintro e wB ⟨rfl, bB⟩
                  have SB : Hid (Below wr.heap.size wr wB) := Lib.hid ((Below.refl wr.heap.size wr).drew.trans bB)
                  clear bB
                  try go_wp2_with fail
                  refine hK.out _ _ ?_ (fun hHeld => ?_)
                  · exact SB.out
                  clear hK K
                  try simp only [List.getElem_toArray, List.getElem_cons_succ, List.getElem_cons_zero, Act.put, List.setIfInBounds_toArray, List.set_cons_zero, List.set_cons_succ]
                  refine wpAnyH_take (i := 6) (v := ?_) rfl (by kernel_rfl) (by kernel_rfl) (by kernel_rfl) (fun _ _ _ h => h) (Or.inl ⟨by rfl, ?_⟩) hHeld ?_
                  rotate_left
                  · intro w' hSw; go_simp; try with_reducible rfl
                  simp only [List.getElem_toArray, List.getElem_cons_succ, List.getElem_cons_zero, Act.put, List.setIfInBounds_toArray, List.set_cons_zero, List.set_cons_succ]
                  refine wpAnyH_take (i := 7) (v := ?_) rfl (by kernel_rfl) (by kernel_rfl) (by kernel_rfl) (fun _ _ _ h => h) (Or.inl ⟨by rfl, ?_⟩) hHeld ?_
                  rotate_left
                  · intro w' hSw; go_simp; try with_reducible rfl
                  simp only [List.getElem_toArray, List.getElem_cons_succ, List.getElem_cons_zero, Act.put, List.setIfInBounds_toArray, List.set_cons_zero, List.set_cons_succ]
                  refine wpAnyH_take (i := 8) (v := ?_) rfl (by kernel_rfl) (by kernel_rfl) (by kernel_rfl) (fun _ _ _ h => h) (Or.inl ⟨by rfl, ?_⟩) hHeld ?_
                  rotate_left
                  · intro w' hSw; go_simp; try with_reducible rfl
                  simp only [List.getElem_toArray, List.getElem_cons_succ, List.getElem_cons_zero, Act.put, List.setIfInBounds_toArray, List.set_cons_zero, List.set_cons_succ]
                  refine wpAnyH_take (i := 9) (v := ?_) rfl (by kernel_rfl) (by kernel_rfl) (by kernel_rfl) (fun _ _ _ h => h) (Or.inl ⟨by rfl, ?_⟩) hHeld ?_
                  rotate_left
                  · intro w' hSw; go_simp; try with_reducible rfl
                  simp only [List.getElem_toArray, List.getElem_cons_succ, List.getElem_cons_zero, Act.put, List.setIfInBounds_toArray, List.set_cons_zero, List.set_cons_succ]
                  refine wpAnyH_take (i := 10) (v := ?_) rfl (by kernel_rfl) (by kernel_rfl) (by kernel_rfl) (fun _ _ _ h => h) (Or.inl ⟨by rfl, ?_⟩) hHeld ?_
                  rotate_left
                  · intro w' hSw; go_simp; try with_reducible rfl
                  simp only [List.getElem_toArray, List.getElem_cons_succ, List.getElem_cons_zero, Act.put, List.setIfInBounds_toArray, List.set_cons_zero, List.set_cons_succ]
                  refine wpAnyH_done (by kernel_rfl) ?_ _
                  have hst := PJ.out.1
                  have BX := Lib.hid (BV.out.trans (SB.out.mono BV.out.size))
                  clear k0 k1 k2 k3 k4 k5 hg0 HI SB AV YP BV
                  go_wp2_with fail
                  clear hst
                  go_loopw [18] (fun s18 ws => ∃ m : Nat, m ≤ j ∧ s18 = .int .i64 m ∧ Below w7.heap.size w7 ws) (fun s18 _ => j - (intOf s18).toNat)
                  case atStart => exact ⟨0, by omega, by go_num, BX.out⟩
                  case round =>
                    obtain ⟨m, hm, rfl, hb⟩ := hrel
                    have BV := Lib.hid hb
                    have AV := Lib.hid ((AI.out.below intR hb).more intR hb.size)
                    clear hb BX
                    by_cases hl6 : m < j
                    · have hl6' : (m : Int) < j := by omega
                      have hml : (m : Int) < N := by omega
                      have hmr : m < al.length := by omega
                      obtain ⟨bm, ofm, e1, hbm, hc0⟩ := AV.out.at hjr
                      obtain ⟨bn, ofn, e2, hbn, hc1⟩ := AV.out.at hmr
                      cases e1
                      cases e2
                      obtain ⟨y, hy⟩ : ∃ z, z = al[m] := ⟨_, rfl⟩
                      rw [← HZ.out] at hc0
                      have hg0 : wr.cell? ⟨bk, off + j, none⟩ = some (.int .i64 z) := by simpa [IntR] using hc0
                      have hg1 : wr.cell? ⟨bk, off + m, none⟩ = some (.int .i64 y) := by rw [hy]; simpa [IntR] using hc1
                      have hne : (y == z) = false := by
                        have := PJ.out.2 m hl6
                        rw [← hy] at this
                        simpa using this
                      have BD : Hid (∀ nq, Below w7.heap.size w7 (wr.drewN nq)) := Lib.hid (fun nq => ⟨BV.out.os, BV.out.tape, BV.out.output, BV.out.size, BV.out.block⟩)
                      clear hc0 hc1 hy hbm hbn
                      go_upto_region 40 with fail
                      go_quiet (fail)
                      have hdb := BD.out nq
                      generalize wr.drewN nq = q9 at hdb ⊢
                      have B9 := Lib.hid hdb
                      clear hdb BD hg0 hg1 hne
                      go_wp2_with fail
                      go_roundw
                      case measure => simp [intOf]; omega
                      case rel => exact ⟨m + 1, by omega, by go_num, B9.out⟩
                    · obtain rfl : m = j := by omega
                      have hl6' : ¬ (m : Int) < m := by omega
                      go_wp2_with fail
                      go_roundw
                      case measure => simp [intOf]; omega
                      case rel => exact ⟨m + 1, by omega, by go_num, BV.out⟩
                · obtain rfl : j = N := by omega
                  have hl5' : ¬ (j : Int) < j := by omega
                  go_wp2_with fail
                  go_roundw
                  case measure => simp [intOf]; omega
                  case rel => exact ⟨i + 1, by omega, by go_num, YP.out, BT.out⟩
            · obtain rfl : i = n5 := by omega
              have hlt' : ¬ (i : Int) < i := by omega
              go_wp2_with fail
              go_ret
              exact ⟨rfl, BQ.out⟩
end Go.Proofs.Ythlolpflgninjaa
