/-
 ConflictOwn: the walk, given the program's contracts.
 Conditions: none.
-/
import Derived.Test.YtebffdfimmbbdaaQGCnfSt
import Derived.Test.YtebffdfimmbbdaaQCnfOwnM
import Derived.Test.YtebffdfimmbbdaaQGPlnRefD
import Derived.Test.YtebffdfimmbbdaaQGPlnRefB
import Derived.Test.YtebffdfimmbbdaaQGWayAllM
import Derived.BigQuiet
set_option linter.unusedVariables false
set_option linter.unusedSimpArgs false
set_option maxRecDepth 100000
namespace Go.Proofs.Ytebffdfimmbbdaa
open Go.RowKit

/-- A route that reads memory below m. -/
def RouteF (m : Nat) : El Rt := fun W B c r => m ≤ B ∧ RouteR W m c r
theorem routeF (m : Nat) : Elem (RouteF m) := ⟨fun h hb => ⟨h.1, routeR.below h.2 (hb.mono h.1)⟩, fun h hb => ⟨Nat.le_trans h.1 hb, h.2⟩⟩
theorem routeF_cells {m : Nat} {W : World} {B : Nat} (c c' : Nat → Option Value) (x : Rt) (h : ∀ k, k < 7 → c k = c' k) (hx : RouteF m W B c x) : RouteF m W B c' x := ⟨hx.1, routeR_cells c c' x h hx.2⟩
theorem routesF_in {m : Nat} {W : World} {B : Nat} {v : Value} {l : List Rt} (h : ListIn 7 (RouteF m) W B v l) : RoutesIn W B v l := by
 obtain ⟨A, cap, e, h1, h2, hn, h3⟩ := h
 refine ⟨A, cap, e, h1, h2, hn, fun hp => ?_⟩
 obtain ⟨b, off, ha, hlt, hc⟩ := h3 hp
 exact ⟨b, off, ha, hlt, fun j hj => routeR.more (hc j hj).2 (hc j hj).1⟩
abbrev SelOwn (m : Nat) (W : World) (lo : Nat) (v : Value) (l : List Rt) : Prop := ListOwn 41 7 (RouteF m) W lo v l
theorem routeF_grown {m lo g : Nat} {W W' : World} {c : Nat → Option Value} {y : Rt} (hm : m ≤ lo) (hl : lo ≤ g) (h : RouteF m W W.heap.size c y) (hg : W.grownBy W' (some g)) : RouteF m W' W'.heap.size c y := by
 have hb : Below m W W' := (Below.refl m W).grown hg h.1 (fun k hk => by cases hk; omega)
 exact ⟨Nat.le_trans h.1 hg.size, routeR.below h.2 hb⟩
theorem sel_set {m lo b : Nat} {W : World} {v : Value} {l : List Rt} (h : SelOwn m W lo v l) (hb : b < lo) (hm : m ≤ b) (j : Nat) (x : Value) : SelOwn m (W.setCell ⟨b, j, none⟩ x) lo v l :=
 ListOwn.keep_ h (grown_setK W b j x) (fun n ys ho => by
  cases hv : v.ownBlock with
  | none => exact .inl rfl
  | some k =>
   have h1 := own_ge ho k hv
   exact .inr (fun e => by cases e; omega)) (fun h => routeF_grown (lo := m) (Nat.le_refl _) hm h (grown_setK W b j x))
theorem two_none {p : Pl} {a b : Int} (h : twoE p a b ≠ 0) : twoB p a b = false := by rw [twoB, if_neg h]
set_option maxHeartbeats 16000000 in
theorem walk_cnf_own (hc : CnfSaid) (v : Value) (p : Pl) (a b : Int) (w : World) (h : PlanV w w.heap.size v p) :
  Calls Try.prog 6 #[v, .int .i64 a, .int .i64 b] w fun e w' => e = .returned (.bool true) ∧ Below w.heap.size w w' := by
 obtain ⟨y2, y3, y4, y5, rfl, hin⟩ := h
 have HIN0 := Lib.hid hin
 obtain ⟨A2, c2, rfl, -, -⟩ := hin.secs.slice
 obtain ⟨A3, c3, rfl, -, -⟩ := hin.pts.slice
 obtain ⟨A4, c4, rfl, -, -⟩ := hin.sigs.slice
 obtain ⟨A5, c5, rfl, hcl5, hcm5⟩ := hin.routes.slice
 obtain ⟨n2, hn2⟩ : ∃ n, n = p.secs.length := ⟨_, rfl⟩
 obtain ⟨n3, hn3⟩ : ∃ n, n = p.pts.length := ⟨_, rfl⟩
 obtain ⟨n4, hn4⟩ : ∃ n, n = p.sigs.length := ⟨_, rfl⟩
 obtain ⟨n5, hn5⟩ : ∃ n, n = p.routes.length := ⟨_, rfl⟩
 have HM5 : Hid (n5 ≤ 9223372036854775807) := Lib.hid (by rw [hn5]; unfold maxLen at hcm5; omega)
 have HN5 := Lib.hid hn5
 have HP0 : Hid (PlanV w w.heap.size (.agg #[.int .i64 p.ver, .int .i64 p.par, .slice A2 n2 c2, .slice A3 n3 c3, .slice A4 n4 c4, .slice A5 n5 c5]) p) := Lib.hid ⟨_, _, _, _, rfl, by rw [hn2, hn3, hn4, hn5]; exact HIN0.out⟩
 rw [← hn2, ← hn3, ← hn4, ← hn5]
 clear hn2 hn3 hn4 hn5 HIN0 hin hcl5 hcm5
 have hq0 := heap_alloc_self w (.cells #[.int .i64 p.ver, .int .i64 p.par, .slice A2 n2 c2, .slice A3 n3 c3, .slice A4 n4 c4, .slice A5 n5 c5] 30)
 have hqb := below_new w (.cells #[.int .i64 p.ver, .int .i64 p.par, .slice A2 n2 c2, .slice A3 n3 c3, .slice A4 n4 c4, .slice A5 n5 c5] 30)
 go_enter Try.func6, Try.ntmps6
 go_upto_region 1 with fail
 generalize w.alloc (.cells #[.int .i64 p.ver, .int .i64 p.par, .slice A2 n2 c2, .slice A3 n3 c3, .slice A4 n4 c4, .slice A5 n5 c5] 30) = q at hq0 hqb ⊢
 have BZ := Lib.hid hqb
 have XP := Lib.hid hq0
 have HP := Lib.hid ((HP0.out.below hqb).more hqb.size)
 clear hq0 hqb HP0
 go_wp2_with fail
 refine (alive11 hc q).mono ?_
 rintro e w1 ⟨rfl, b1⟩
 replace BZ := Lib.hid (BZ.out.trans (b1.mono BZ.out.size))
 replace XP := Lib.hid ((b1.block _ (heap_lt XP.out)).trans XP.out)
 replace HP := Lib.hid ((HP.out.below b1).more b1.size)
 clear b1
 obtain ⟨k0, k1, k2, k3, k4, k5⟩ := cell6_of XP.out
 go_wp2_with fail
 refine (rgreat8_any _ p w1 HP.out).mono ?_
 rintro e w2 ⟨⟨g, rfl, hg⟩, bG⟩
 clear k0 k1 k2 k3 k4 k5
 replace BZ := Lib.hid (BZ.out.trans (bG.mono BZ.out.size))
 replace XP := Lib.hid ((bG.block _ (heap_lt XP.out)).trans XP.out)
 replace HP := Lib.hid ((HP.out.below bG).more bG.size)
 clear bG
 cases g with
 | true =>
  go_wp2_with fail
  go_ret
  exact ⟨rfl, BZ.out⟩
 | false =>
 have FEW := Lib.hid (hg rfl)
 clear hg
 obtain ⟨E, hE⟩ : ∃ x, x = twoE p a b := ⟨_, rfl⟩
 obtain ⟨IS, hI⟩ : ∃ x, x = twoB p a b := ⟨_, rfl⟩
 have HE := Lib.hid hE
 have HI := Lib.hid hI
 clear hE hI
 obtain ⟨k0, k1, k2, k3, k4, k5⟩ := cell6_of XP.out
 go_wp2_with fail
 refine (hc.two _ p a b w2 HP.out).mono ?_
 rintro e w3 ⟨rfl, b3⟩
 rw [← HE.out, ← HI.out]
 clear k0 k1 k2 k3 k4 k5
 replace BZ := Lib.hid (BZ.out.trans (b3.mono BZ.out.size))
 replace XP := Lib.hid ((b3.block _ (heap_lt XP.out)).trans XP.out)
 replace HP := Lib.hid ((HP.out.below b3).more b3.size)
 clear b3
 by_cases h0 : E = 0
 rotate_left
 ·have d0 : (E != 0) = true := by simpa using h0
  have hI : IS = false := by rw [HI.out]; exact two_none (by rw [← HE.out]; exact h0)
  subst hI
  clear h0
  go_wp2_with fail
  go_ret
  exact ⟨rfl, BZ.out⟩
 subst h0
 have OWN := Lib.hid (own_two HE.out.symm)
 have d0 : ((0 : Int) != 0) = false := by decide
 obtain ⟨k0, k1, k2, k3, k4, k5⟩ := cell6_of XP.out
 go_wp2_with fail
 refine (rtwin8_any _ p w3 HP.out FEW.out).mono ?_
 rintro e wT ⟨u2, u3, u4, u5, rfl, ho, bT⟩
 obtain ⟨O2, f2, rfl⟩ := ho.secs.slice
 obtain ⟨O3, f3, rfl⟩ := ho.pts.slice
 obtain ⟨O4, f4, rfl⟩ := ho.sigs.slice
 obtain ⟨O5, f5, rfl⟩ := ho.routes.slice
 have HO : Hid (PlIn wT wT.heap.size (.slice O2 p.secs.length f2) (.slice O3 p.pts.length f3) (.slice O4 p.sigs.length f4) (.slice O5 p.routes.length f5) p) := Lib.hid ho.in_
 clear ho k0 k1 k2 k3 k4 k5 d0
 replace BZ := Lib.hid (BZ.out.trans (bT.mono BZ.out.size))
 replace XP := Lib.hid ((bT.block _ (heap_lt XP.out)).trans XP.out)
 replace HP := Lib.hid ((HP.out.below bT).more bT.size)
 clear bT
 have XX0 := heap_alloc_self wT (.cells #[.int .i64 0, .int .i64 0, .slice none 0 0, .slice none 0 0, .slice none 0 0, .slice none 0 0] 30)
 have hb1 := below_setRow (below_new wT (.cells #[.int .i64 0, .int .i64 0, .slice none 0 0, .slice none 0 0, .slice none 0 0, .slice none 0 0] 30)) (Nat.le_refl _) #[.int .i64 p.ver, .int .i64 p.par, .slice O2 p.secs.length f2, .slice O3 p.pts.length f3, .slice O4 p.sigs.length f4, .slice O5 p.routes.length f5]
 have hx1 := setRow_heap (wT.alloc (.cells #[.int .i64 0, .int .i64 0, .slice none 0 0, .slice none 0 0, .slice none 0 0, .slice none 0 0] 30)) wT.heap.size _ #[.int .i64 p.ver, .int .i64 p.par, .slice O2 p.secs.length f2, .slice O3 p.pts.length f3, .slice O4 p.sigs.length f4, .slice O5 p.routes.length f5] 30 _ XX0
 go_upto_region 8 with ((with_reducible show wpList _ _ _ (⟨none, _, _, _, _, _⟩ :: _) _ _); refine wpList_store_rowS rfl _ (.tmp 10) (.tmp 36) rfl wT.heap.size rfl (c' := #[.int .i64 p.ver, .int .i64 p.par, .slice O2 p.secs.length f2, .slice O3 p.pts.length f3, .slice O4 p.sigs.length f4, .slice O5 p.routes.length f5]) rfl XX0 infoPlan6 rfl (by simp [Value.oneCell']) ?_)
 generalize (wT.alloc (.cells #[.int .i64 0, .int .i64 0, .slice none 0 0, .slice none 0 0, .slice none 0 0, .slice none 0 0] 30)).setRow wT.heap.size #[.int .i64 p.ver, .int .i64 p.par, .slice O2 p.secs.length f2, .slice O3 p.pts.length f3, .slice O4 p.sigs.length f4, .slice O5 p.routes.length f5] = q1 at hb1 hx1 ⊢
 obtain ⟨p3, hp1⟩ : ∃ n, n = wT.heap.size := ⟨_, rfl⟩
 have LP : Hid (w.heap.size < p3) := Lib.hid (by rw [hp1]; exact heap_lt XP.out)
 have BZL : Hid (w.heap.size ≤ p3) := Lib.hid (by rw [hp1]; exact BZ.out.size)
 rw [← hp1] at hx1 hb1 HO HP ⊢
 have X0 := Lib.hid hx1
 have BT := Lib.hid hb1
 clear hx1 hb1 XX0 hp1
 obtain ⟨m0, m1, m2, m3, m4, m5⟩ := cell6_of X0.out
 have fz := frozen2_of X0.out 0
 go_upto_region 9 with fail
 have tX : (q1.setCell ⟨p3, 0, none⟩ (.int .i64 1)).heap[p3]? = some (.cells #[.int .i64 1, .int .i64 p.par, .slice O2 p.secs.length f2, .slice O3 p.pts.length f3, .slice O4 p.sigs.length f4, .slice O5 p.routes.length f5] 30 (0, 0)) := heap_setK (k := 0) X0.out _
 have tB := below_set BT.out (Nat.le_refl p3) 0 (.int .i64 1)
 generalize q1.setCell ⟨p3, 0, none⟩ (.int .i64 1) = q2 at tX tB ⊢
 clear X0 BT m0 m1 m2 m3 m4 m5 fz
 have X1 := Lib.hid tX
 have B1 := Lib.hid tB
 clear tX tB
 obtain ⟨m0, m1, m2, m3, m4, m5⟩ := cell6_of X1.out
 have fz := frozen2_of X1.out 1
 go_upto_region 10 with fail
 have tX : (q2.setCell ⟨p3, 1, none⟩ (.int .i64 0)).heap[p3]? = some (.cells #[.int .i64 1, .int .i64 0, .slice O2 p.secs.length f2, .slice O3 p.pts.length f3, .slice O4 p.sigs.length f4, .slice O5 p.routes.length f5] 30 (0, 0)) := heap_setK (k := 1) X1.out _
 have tB := below_set B1.out (Nat.le_refl p3) 1 (.int .i64 0)
 generalize q2.setCell ⟨p3, 1, none⟩ (.int .i64 0) = q3 at tX tB ⊢
 clear X1 B1 m0 m1 m2 m3 m4 m5 fz
 have X2 := Lib.hid tX
 have B2 := Lib.hid tB
 clear tX tB
 obtain ⟨m0, m1, m2, m3, m4, m5⟩ := cell6_of X2.out
 have fz := frozen2_of X2.out 5
 go_upto_region 11 with fail
 have tX : (q3.setCell ⟨p3, 5, none⟩ (.slice none 0 0)).heap[p3]? = some (.cells #[.int .i64 1, .int .i64 0, .slice O2 p.secs.length f2, .slice O3 p.pts.length f3, .slice O4 p.sigs.length f4, .slice none 0 0] 30 (0, 0)) := heap_setK (k := 5) X2.out _
 have tB := below_set B2.out (Nat.le_refl p3) 5 (.slice none 0 0)
 generalize q3.setCell ⟨p3, 5, none⟩ (.slice none 0 0) = q4 at tX tB ⊢
 clear X2 B2 m0 m1 m2 m3 m4 m5 fz
 have X3 := Lib.hid tX
 have B3 := Lib.hid tB
 clear tX tB
 have hn9 := HM5.out
 go_wp2_with fail
 go_loopw [11] (fun s11 wr => ∃ (i k_ c_ : Nat) (A_ : Option Addr), i ≤ n5 ∧ s11 = .int .i64 i ∧ k_ = (selN p a b i).length ∧ SelOwn p3 wr (p3 + 1) (.slice A_ k_ c_) (selN p a b i) ∧ wr.heap[p3]? = some (.cells #[.int .i64 1, .int .i64 0, .slice O2 p.secs.length f2, .slice O3 p.pts.length f3, .slice O4 p.sigs.length f4, .slice A_ k_ c_] 30 (0, 0)) ∧ Below p3 wT wr) (fun s11 _ => n5 - (intOf s11).toNat)
 case atStart => exact ⟨0, 0, 0, none, by omega, by go_num, rfl, ListOwn.nil_, X3.out, B3.out⟩
 case round =>
  obtain ⟨i, k_, c_, A_, hi, rfl, hlen, hsel, hx, hb⟩ := hrel
  have HLL := Lib.hid hlen
  have OW := Lib.hid hsel
  have XO := Lib.hid hx
  have BW := Lib.hid hb
  clear hlen hsel hx hb
  have XPr := Lib.hid ((BW.out.block _ LP.out).trans XP.out)
  have SZ : Hid (p3 + 1 ≤ wr.heap.size) := Lib.hid (heap_lt XO.out)
  obtain ⟨k0, k1, k2, k3, k4, k5⟩ := cell6_of XPr.out
  by_cases hlt : i < n5
  ·have hlt' : (i : Int) < n5 := by omega
   have hil : i < p.routes.length := by rw [← HN5.out]; exact hlt
   obtain ⟨r, hr⟩ : ∃ r, r = p.routes[i] := ⟨_, rfl⟩
   have HR_ := Lib.hid hr
   have HRS : Hid (RoutesIn wr p3 (.slice A5 n5 c5) p.routes) := Lib.hid (by
    obtain ⟨_, _, _, _, e, hin⟩ := HP.out.below BW.out
    cases e
    exact hin.routes)
   obtain ⟨bk, ok, e5, hbk, h0, h1, h2, h6, u3, u4, u5, h3, h4, h5, hri⟩ := HRS.out.at hil
   cases e5
   rw [← hr] at h0 h1 h2 h6 hri
   obtain ⟨V3, g3, rfl, -, -⟩ := hri.path.slice
   obtain ⟨V4, g4, rfl, -, -⟩ := hri.over.slice
   obtain ⟨V5, g5, rfl, -, -⟩ := hri.flanks.slice
   have RI := Lib.hid hri
   have g0 : wr.cell? ⟨bk, ok + i * 7, none⟩ = some (.int .i64 r.id) := h0
   have G0 := Lib.hid g0
   have G1 : Hid (wr.cell? ⟨bk, ok + i * 7 + 1, none⟩ = some (.int .i64 r.entry)) := Lib.hid h1
   have G2 : Hid (wr.cell? ⟨bk, ok + i * 7 + 2, none⟩ = some (.int .i64 r.exit)) := Lib.hid h2
   have G3 : Hid (wr.cell? ⟨bk, ok + i * 7 + 3, none⟩ = some (.slice V3 r.path.length g3)) := Lib.hid h3
   have G4 : Hid (wr.cell? ⟨bk, ok + i * 7 + 4, none⟩ = some (.slice V4 r.over.length g4)) := Lib.hid h4
   have G5 : Hid (wr.cell? ⟨bk, ok + i * 7 + 5, none⟩ = some (.slice V5 r.flanks.length g5)) := Lib.hid h5
   have G6 : Hid (wr.cell? ⟨bk, ok + i * 7 + 6, none⟩ = some (.int .i64 r.timer)) := Lib.hid h6
   have GB : Hid (bk < p3) := Lib.hid hbk
   have LLE : Hid (k_ ≤ 1000) := Lib.hid (by
    have h1 := selN_len p a b i
    have h2 := FEW.out.routes
    have h3 := HLL.out
    omega)
   clear hr h0 h1 h2 h3 h4 h5 h6 hri hbk
   by_cases hk : r.id = a ∨ r.id = b
   ·have HFY : Hid (selN p a b (i + 1) = selN p a b i ++ [r]) := Lib.hid (by rw [selN_take hil (by rw [← HR_.out, selB]; simpa using hk), ← HR_.out])
    go_upto_region 14 with fail
    go_cut [64] from 47 to 64 (fun s64 wx => s64 = .bool true ∧ wx = wr)
    case first =>
     by_cases he : r.id = a
     ·have d1 : (r.id == a) = true := by simpa using he
      clear hk he
      go_wp2_with fail
      go_meet
      exact ⟨rfl, rfl⟩
     ·have d1 : (r.id == a) = false := by simpa using he
      have d2 : (r.id == b) = true := by rcases hk with h | h; exact absurd h he; simpa using h
      clear hk he
      go_wp2_with fail
      go_meet
      exact ⟨rfl, rfl⟩
    case rest =>
     obtain ⟨rfl, hwc⟩ := hcut
     subst hwc
     clear g0 k0 k1 k2 k3 k4 k5 hk
     obtain ⟨yss, hown, hyl, hm, hys, hyr⟩ := OW.out
     rw [← HLL.out] at hown
     have O := Lib.hid hown
     have YL := Lib.hid hyl
     have YS := Lib.hid hys
     have YR := Lib.hid hyr
     obtain ⟨i0, hii, hz0, hzz, hz2⟩ := info_parts infoRouteI
     have I0 := Lib.hid hii
     have I1 := Lib.hid hz0
     have I2 := Lib.hid hzz
     have I3 := Lib.hid hz2
     clear hii hz0 hzz hz2 hown hyl hm hys hyr
     go_upto_region 15 with fail
     refine wp_region_end (S := fun v' => Below (p3 + 1) wc v') 10 (by kernel_rfl) (Below.refl (p3 + 1) wc).drew (fun hHeld => ?_)
     refine tke [1, 8, 10] 0 hHeld ?_;refine tkd [8, 10] 1 hHeld (fun w' hSw => (hSw.cell (p := ⟨p3, 5, none⟩) (Nat.lt_succ_self p3)).trans (cell6_of XO.out).2.2.2.2.2) ?_;refine tke [3, 5, 6, 7, 8, 10] 2 hHeld ?_;refine tkd [5, 6, 7, 8, 10] 3 hHeld (fun w' hSw => (hSw.cell (p := ⟨w.heap.size, 5, none⟩) (Nat.lt_succ_of_lt LP.out)).trans (cell6_of XPr.out).2.2.2.2.2) ?_;refine tke [5, 6, 7, 8, 10] 4 hHeld ?_;refine tke [6, 7, 8, 10] 5 hHeld ?_
     refine wpAnyE_take [7, 8, 10] (i := 6) (v := ?_) rfl (by kernel_rfl) (by kernel_rfl) (by kernel_rfl) (fun _ _ _ h => h) (by kernel_rfl) (by kernel_rfl) (by kernel_rfl) (Or.inl ⟨by rfl, ?_⟩) hHeld ?_
     rotate_left
     ·intro w' hSw; have cg0 := (hSw.cell (p := ⟨bk, ok + i * 7, none⟩) (Nat.lt_succ_of_lt GB.out)).trans G0.out; have cg1 := (hSw.cell (p := ⟨bk, ok + i * 7 + 1, none⟩) (Nat.lt_succ_of_lt GB.out)).trans G1.out; have cg2 := (hSw.cell (p := ⟨bk, ok + i * 7 + 2, none⟩) (Nat.lt_succ_of_lt GB.out)).trans G2.out; have cg3 := (hSw.cell (p := ⟨bk, ok + i * 7 + 3, none⟩) (Nat.lt_succ_of_lt GB.out)).trans G3.out; have cg4 := (hSw.cell (p := ⟨bk, ok + i * 7 + 4, none⟩) (Nat.lt_succ_of_lt GB.out)).trans G4.out; have cg5 := (hSw.cell (p := ⟨bk, ok + i * 7 + 5, none⟩) (Nat.lt_succ_of_lt GB.out)).trans G5.out; have cg6 := (hSw.cell (p := ⟨bk, ok + i * 7 + 6, none⟩) (Nat.lt_succ_of_lt GB.out)).trans G6.out; go_simp; try with_reducible rfl
     simp only [zn, Act.put]
     refine wpAnyE_one (i := 7) (by kernel_rfl) rfl (by kernel_rfl) (fun K hK => ?_)
     go_simp
     refine hK.out _ _ ?_ fun hHeld => ?_;exact ((Below.refl (p3 + 1) wc).drew.alloc SZ.out _);clear hK K;try simp only [zn, Act.put]
     refine wpAnyE_one (i := 8) (by kernel_rfl) rfl (by kernel_rfl) (fun K hK => ?_)
     rw [if_pos (by rfl)]
     refine wp_append_listB (.tmp 66) (.tmp 72) _ rfl Try.underlying28 I0.out I1.out rfl I2.out (by decide) I3.out (by decide) rfl (owns_below O.out ((Below.refl wc.heap.size wc).alloc (Nat.le_refl _) _).drew) rfl (m := 1) (news := [.int .i64 r.id, .int .i64 r.entry, .int .i64 r.exit, .slice V3 r.path.length g3, .slice V4 r.over.length g4, .slice V5 r.flanks.length g5, .int .i64 r.timer]) rfl (fun h => by cases h) (fun a ha j u hj => by cases ha; rw [Addr.add_lit, Nat.zero_add]; show (wc.alloc (.cells #[.int .i64 r.id, .int .i64 r.entry, .int .i64 r.exit, .slice V3 r.path.length g3, .slice V4 r.over.length g4, .slice V5 r.flanks.length g5, .int .i64 r.timer] 41)).cell? ⟨wc.heap.size, j, none⟩ = _; rw [World.cell?_alloc_new]; simpa using hj) (by simp [Value.oneCell']) (by have := LLE.out; omega) (by have := SZ.out; simp; omega) ?_
     intro z5 x5 hown5 hgrow6
     have hgrow5 : World.grownBy (wc.alloc (.cells #[.int .i64 r.id, .int .i64 r.entry, .int .i64 r.exit, .slice V3 r.path.length g3, .slice V4 r.over.length g4, .slice V5 r.flanks.length g5, .int .i64 r.timer] 41)) x5 (Value.ownBlock (.slice A_ k_ c_)) := ⟨hgrow6.os, hgrow6.tape, hgrow6.output, hgrow6.size, hgrow6.block⟩
     have S5 : Hid (SelOwn p3 x5 (p3 + 1) z5 (selN p a b (i + 1))) := Lib.hid (by
      rw [HFY.out]
      exact ListOwn.snoc (w1 := wc) (x := r) (ys := [.int .i64 r.id, .int .i64 r.entry, .int .i64 r.exit, .slice V3 r.path.length g3, .slice V4 r.over.length g4, .slice V5 r.flanks.length g5, .int .i64 r.timer]) (routeF p3) (fun hl h hg _ => routeF_grown (Nat.le_succ p3) hl h hg) (by rw [← HLL.out]; exact O.out) YL.out YS.out rfl (by have := LLE.out; have := HLL.out; unfold maxLen; omega) YR.out (Below.refl _ _) ⟨by have := SZ.out; omega, rfl, rfl, rfl, rfl, _, _, _, rfl, rfl, rfl, RI.out⟩ (by rw [← HLL.out]; exact hown5) hgrow5)
     have B5 : Hid (Below (p3 + 1) wc x5) := Lib.hid (((Below.refl (p3 + 1) wc).alloc SZ.out _).grown hgrow5 (by have := SZ.out; simp; omega) (own_ge O.out))
     have XOx : Hid (x5.heap[p3]? = some (.cells #[.int .i64 1, .int .i64 0, .slice O2 p.secs.length f2, .slice O3 p.pts.length f3, .slice O4 p.sigs.length f4, .slice A_ k_ c_] 30 (0, 0))) := Lib.hid ((B5.out.block p3 (Nat.lt_succ_self p3)).trans XO.out)
     have LN5 : Hid (k_ + 1 = (selN p a b (i + 1)).length) := Lib.hid (by rw [HFY.out, List.length_append, ← HLL.out]; rfl)
     have kw := (cell6_of XOx.out).2.2.2.2.2
     have fw : x5.frozen? ⟨p3, 5, none⟩ = false := frozen2_of XOx.out 5
     obtain ⟨A5_, c5_, rfl⟩ := own_sliceN hown5
     clear hown5 hgrow5 hgrow6
     refine hK.out _ _ ?_ fun hHeld => ?_;exact B5.out;clear hK K;try simp only [zn, Act.put]
     refine tke [10] 9 hHeld ?_
     refine wpAnyE_last (by kernel_rfl) rfl (by kernel_rfl) (fun K hK => ?_)
     rw [if_pos (by rfl)]
     go_simp
     refine hK.out _ _ ?_
     clear hK K
     have hz1 : (x5.setCell ⟨p3, 5, none⟩ (.slice A5_ (k_ + 1) c5_)).heap[p3]? = some (.cells #[.int .i64 1, .int .i64 0, .slice O2 p.secs.length f2, .slice O3 p.pts.length f3, .slice O4 p.sigs.length f4, .slice A5_ (k_ + 1) c5_] 30 (0, 0)) := heap_setK (k := 5) XOx.out _
     have hz3 := sel_set S5.out (Nat.lt_succ_self p3) (Nat.le_refl p3) 5 (.slice A5_ (k_ + 1) c5_)
     have hz0 := below_set (BW.out.trans (B5.out.mono (Nat.le_succ p3))) (Nat.le_refl p3) 5 (.slice A5_ (k_ + 1) c5_)
     generalize x5.setCell ⟨p3, 5, none⟩ (.slice A5_ (k_ + 1) c5_) = x6 at hz0 hz1 hz3 ⊢
     have Z1 := Lib.hid hz1
     have Z3 := Lib.hid hz3
     have Z0 := Lib.hid hz0
     clear hz0 hz1 hz3 kw fw
     go_wp2_with fail
     go_roundw
     case measure => simp [intOf]; omega
     case rel => exact ⟨i + 1, _, _, _, by omega, by go_num, LN5.out, Z3.out, Z1.out, Z0.out⟩
   ·have HFN : Hid (selN p a b (i + 1) = selN p a b i) := Lib.hid (selN_skip hil (by rw [← HR_.out, selB]; simpa using hk))
    have d1 : (r.id == a) = false := by simpa using fun h => hk (.inl h)
    have d2 : (r.id == b) = false := by simpa using fun h => hk (.inr h)
    clear hk
    go_wp2_with fail
    go_roundw
    case measure => simp [intOf]; omega
    case rel => exact ⟨i + 1, k_, c_, A_, by omega, by go_num, by rw [HFN.out]; exact HLL.out, by rw [HFN.out]; exact OW.out, XO.out, BW.out⟩
  ·obtain rfl : i = n5 := by omega
   have hlt' : ¬ (i : Int) < i := by omega
   obtain ⟨Q, hQ⟩ : ∃ x, x = withV p 1 0 (selN p a b p.routes.length) := ⟨_, rfl⟩
   have QV : Hid (PlanV wr wr.heap.size (.agg #[.int .i64 1, .int .i64 0, .slice O2 p.secs.length f2, .slice O3 p.pts.length f3, .slice O4 p.sigs.length f4, .slice A_ k_ c_]) Q) := Lib.hid (by
    have h1 := (HO.out.below BW.out).more (show p3 ≤ wr.heap.size by have := SZ.out; omega)
    have h2 := routesF_in (OW.out.in_ routeF_cells)
    rw [HN5.out] at h2
    rw [hQ]
    exact ⟨_, _, _, _, rfl, ⟨h1.secs, h1.pts, h1.sigs, h2⟩⟩)
   have OQ : Hid (twoE Q a b = 0 ∧ twoB Q a b = IS ∧ sndE Q = 0 ∧ (tabL Q).length = if IS = true then 1 else 0) := Lib.hid (by
    rw [hQ, HI.out]
    exact OWN.out)
   have BZr : Hid (Below w.heap.size w wr) := Lib.hid (BZ.out.trans (BW.out.mono BZL.out))
   clear hQ
   obtain ⟨m0, m1, m2, m3, m4, m5⟩ := cell6_of XO.out
   go_wp2_with fail
   refine (hc.two _ Q a b wr QV.out).mono ?_
   rintro e w5 ⟨rfl, b5⟩
   rw [OQ.out.1, OQ.out.2.1]
   have XO5 := Lib.hid ((b5.block _ (heap_lt XO.out)).trans XO.out)
   have QV5 := Lib.hid ((QV.out.below b5).more b5.size)
   have B5 := Lib.hid (BZr.out.trans (b5.mono BZr.out.size))
   clear b5 m0 m1 m2 m3 m4 m5 k0 k1 k2 k3 k4 k5
   obtain ⟨m0, m1, m2, m3, m4, m5⟩ := cell6_of XO5.out
   go_wp2_with fail
   refine (hc.table _ Q w5 QV5.out).mono ?_
   rintro e w6 ⟨u, rfl, hu, b6⟩
   rw [OQ.out.2.2.1]
   have B6 := Lib.hid (B5.out.trans (b6.mono B5.out.size))
   obtain ⟨DA, Dc, rfl⟩ := hu.slice
   obtain ⟨nl, hnl⟩ : ∃ n, n = (tabL Q).length := ⟨_, rfl⟩
   rw [← hnl]
   have HNL : Hid (nl = if IS = true then 1 else 0) := Lib.hid (by rw [hnl]; exact OQ.out.2.2.2)
   clear hu b6 hnl m0 m1 m2 m3 m4 m5
   cases IS with
   | true =>
    obtain rfl : nl = 1 := HNL.out
    clear HNL OQ OWN HI
    go_wp2_with fail
    go_ret
    exact ⟨rfl, B6.out⟩
   | false =>
    obtain rfl : nl = 0 := HNL.out
    clear HNL OQ OWN HI
    go_wp2_with fail
    go_ret
    exact ⟨rfl, B6.out⟩
end Go.Proofs.Ytebffdfimmbbdaa
