/-
 What AreaCloses asks of the routes of one plan; whether areas meet what changes, whether one lies within another.
 Conditions: none.
-/
import Derived.Test.YtneeocnjfnneoaaGreatVGAreM
import Derived.Test.YtneeocnjfnneoaaGreatVGDifM
import Derived.Test.YtneeocnjfnneoaaGreatVGAreRefA
import Derived.Test.YtneeocnjfnneoaaGreatVGPlnRefD
import Derived.Test.YtneeocnjfnneoaaGreatVGBase
set_option linter.unusedVariables false
set_option linter.unusedSimpArgs false
set_option maxRecDepth 100000
namespace Go.Proofs.YtneeocnjfnneoaaGreat
open Go.RowKit

/-- What the theorem asks of the routes of one plan, P, beside another, O. -/
def metL (l : List Df) (x : Ar) : Bool := l.any fun d => decide (d.2.2 ≠ 0) && hasA x d.1 d.2.1
noncomputable def metP (a b P : Pl) (r : Rt) : Bool := metL (diffL a b) (arOf (useB P r))
theorem metP_iff {a b p : Pl} (ha : PlanMay a) (hb : PlanMay b) {r : Rt} : metP a b p r = true ↔ Meet14 (useB p r) (chB a b) := meets_iff ha hb
structure CloseR (a b P O : Pl) (lx : Ar) : Prop where
 us : ∀ r ∈ P.routes, usE P r.id = 0 ∧ usV P r.id = arOf (useB P r)
 yes : ∀ r ∈ P.routes, metP a b P r = true → ∀ kind id, hasA (arOf (useB P r)) kind id = true → hasA lx kind id = true
 no : ∀ r ∈ P.routes, metP a b P r = false → elE O kRt O.routes r.id = 0 ∧ elV O kRt O.routes r.id zRt = r ∧ hasA lx 4 r.id = false
theorem us_at {p : Pl} (h : PlanMay p) {r : Rt} (hr : r ∈ p.routes) : usE p r.id = 0 ∧ routeD p r.id = r ∧ usV p r.id = arOf (useB p r) := by
 rcases us_cases p r.id with ⟨-, g2, g3, g4, g5⟩ | ⟨-, g2, -⟩ | ⟨g, -⟩
 ·have e := route_unique h g4 hr g5
  exact ⟨g2, e, by rw [g3, e]⟩
 ·exact absurd (List.mem_map.2 ⟨r, hr, rfl⟩) (fun hm => (at1_in (k := fun x : Rt => x.id)).2 hm g2)
 ·exact absurd h g
theorem el_at14 {p : Pl} (h : PlanMay p) {r : Rt} (hr : r ∈ p.routes) : elE p kRt p.routes r.id = 0 ∧ elV p kRt p.routes r.id zRt = r := by
 obtain ⟨h1, h2, -⟩ := us_at h hr
 have e : elE p kRt p.routes r.id = 0 := h1
 exact ⟨e, by rw [elV, if_pos e]; exact h2⟩
theorem close_a {a b : Pl} (ha : PlanMay a) (hb : PlanMay b) : CloseR a b a b (arOf (areaB a b)) where
 us r hr := ⟨(us_at ha hr).1, (us_at ha hr).2.2⟩
 yes r hr hm kind id h := use_has ⟨hr, (metP_iff ha hb).1 hm⟩ h
 no r hr hm := by
  obtain ⟨h1, h2⟩ := use_not ha hb hr (fun g => by rw [(metP_iff (r := r) ha hb).2 g] at hm; cases hm)
  exact ⟨(el_at14 hb h1).1, (el_at14 hb h1).2, h2⟩
theorem close_b {a b : Pl} (ha : PlanMay a) (hb : PlanMay b) : CloseR a b b a (arOf (areaB a b)) where
 us r hr := ⟨(us_at hb hr).1, (us_at hb hr).2.2⟩
 yes r hr hm kind id h := use_has_b ⟨hr, (metP_iff ha hb).1 hm⟩ h
 no r hr hm := by
  obtain ⟨h1, h2⟩ := use_not_b ha hb hr (fun g => by rw [(metP_iff (r := r) ha hb).2 g] at hm; cases hm)
  exact ⟨(el_at14 ha h1).1, (el_at14 ha h1).2, h2⟩
theorem in_slC {W : World} {B : Nat} {v : Value} {l : List Int} (h : IntsIn W B v l) : ∃ A n c, v = .slice A n c := by
 obtain ⟨A, c, e, -, -⟩ := h.slice
 exact ⟨A, _, c, e⟩
theorem wrap_u8C (k : Nat) (h : k ≤ 255) : IntKind.u8.wrap (k : Int) = k := by
 simp [IntKind.wrap, IntKind.bits, IntKind.signed]; omega
theorem ints_set14 {W : World} {B px : Nat} {v : Value} {l : List Int} {z c' : Array Value} {T : TypeId} {fr : Nat × Nat} (h : IntsIn W B v l) (hx : W.heap[px]? = some (.cells z T fr)) (hz : ∀ (k : Nat) (n : Int), z[k]? ≠ some (.int .i64 n)) : IntsIn (W.setRow px c') B v l := by
 obtain ⟨A, cap, h0, h1, h2, hn, h3⟩ := h
 refine ⟨A, cap, h0, h1, h2, hn, fun hp => ?_⟩
 obtain ⟨b, off, ha, hlt, hc⟩ := h3 hp
 refine ⟨b, off, ha, hlt, fun j hj => ?_⟩
 have h4 : W.cell? ⟨b, off + j * 1 + 0, none⟩ = some (.int .i64 l[j]) := hc j hj
 have hne : b ≠ px := fun e => by
  subst e
  have h5 : z[off + j * 1 + 0]? = some (.int .i64 l[j]) := by simpa [World.cell?, hx] using h4
  exact hz _ _ h5
 show (W.setRow px c').cell? ⟨b, off + j * 1 + 0, none⟩ = some (.int .i64 l[j])
 exact (World.cell?_of_block (setRow_other W px b c' hne)).trans h4
theorem no_int14 : ∀ (k : Nat) (n : Int), (#[.slice none 0 0, .slice none 0 0, .slice none 0 0, .slice none 0 0] : Array Value)[k]? ≠ some (.int .i64 n)
 | 0, n, h => by simp at h
 | 1, n, h => by simp at h
 | 2, n, h => by simp at h
 | 3, n, h => by simp at h
 | k + 4, n, h => by simp at h
theorem ArIn.set14 {W : World} {B px : Nat} {u0 u1 u2 u3 : Value} {x : Ar} {c' : Array Value} {T : TypeId} {fr : Nat × Nat} (h : ArIn W B u0 u1 u2 u3 x) (hx : W.heap[px]? = some (.cells #[.slice none 0 0, .slice none 0 0, .slice none 0 0, .slice none 0 0] T fr)) : ArIn (W.setRow px c') B u0 u1 u2 u3 x :=
 ⟨ints_set14 h.secs hx no_int14, ints_set14 h.pts hx no_int14, ints_set14 h.sigs hx no_int14, ints_set14 h.routes hx no_int14⟩
theorem RtOwn.below14 {W W' : World} {lo : Nat} {u3 u4 u5 : Value} {r : Rt} (h : RtOwn W lo u3 u4 u5 r) (hb : Below W.heap.size W W') : RtOwn W' lo u3 u4 u5 r := ⟨h.path.below intR hb, h.over.below intR hb, h.flanks.below joinR hb⟩
theorem RtOwn.off14 {W W' : World} {lo k : Nat} {u3 u4 u5 : Value} {r : Rt} (h : RtOwn W lo u3 u4 u5 r) (hg : W.grownBy W' (some k)) (hk : ∃ cur, W.heap[k]? = some (.cells cur 54 (0, 0))) : RtOwn W' lo u3 u4 u5 r :=
 ⟨own_off14 intF h.path hg (by decide) hk, own_off14 intF h.over hg (by decide) hk, own_off14 joinF h.flanks hg (by decide) hk⟩
set_option maxHeartbeats 8000000 in
theorem meets14_any (hc : AreaSaid) (v y : Value) (x : Ar) (l : List Df) (w : World) (h : AreaV w w.heap.size v x) (h' : ListIn 3 DiffR w w.heap.size y l) (hk : ∀ d ∈ l, 0 ≤ d.1 ∧ d.1 < 256) :
  Calls Tryz.prog 23 #[v, y] w fun e w' => e = .returned (.bool (metL l x)) ∧ Below w.heap.size w w' := by
 obtain ⟨u0, u1, u2, u3, rfl, hx⟩ := h
 obtain ⟨A0, n0, c0, rfl⟩ := in_slC hx.secs
 obtain ⟨A1, n1, c1, rfl⟩ := in_slC hx.pts
 obtain ⟨A2, n2, c2, rfl⟩ := in_slC hx.sigs
 obtain ⟨A3, n3, c3, rfl⟩ := in_slC hx.routes
 have HL0 := Lib.hid h'
 obtain ⟨Ad, cd, rfl, hcl, hcm⟩ := h'.slice
 obtain ⟨nd, hnd⟩ : ∃ n, n = l.length := ⟨_, rfl⟩
 have HL : Hid (ListIn 3 DiffR w w.heap.size (.slice Ad nd cd) l) := Lib.hid (by rw [hnd]; exact HL0.out)
 have HN : Hid (nd = l.length) := Lib.hid hnd
 have hn9 : nd ≤ 9223372036854775807 := by unfold maxLen at hcm; omega
 have HKK := Lib.hid hk
 rw [← hnd]
 clear hnd HL0 hcl hcm h' hk
 have h0 := heap_alloc_self w (.cells #[.slice A0 n0 c0, .slice A1 n1 c1, .slice A2 n2 c2, .slice A3 n3 c3] 24)
 have hb := below_new w (.cells #[.slice A0 n0 c0, .slice A1 n1 c1, .slice A2 n2 c2, .slice A3 n3 c3] 24)
 go_enter Tryz.func23, Tryz.ntmps23
 go_upto_region 1 with fail
 generalize w.alloc (.cells #[.slice A0 n0 c0, .slice A1 n1 c1, .slice A2 n2 c2, .slice A3 n3 c3] 24) = q at h0 hb ⊢
 have X0 := Lib.hid h0
 have BQ := Lib.hid hb
 have HX := Lib.hid ((hx.below hb).more hb.size)
 have HLq := Lib.hid ((HL.out.below diffR hb).more diffR hb.size)
 clear h0 hb hx HL
 go_upto_region 2 with fail
 go_loopw [5] (fun s5 wr => ∃ i : Nat, s5 = .int .i64 i ∧ i ≤ nd ∧ (∀ j (hj : j < i) (hl : j < l.length), (decide (l[j].2.2 ≠ 0) && hasA x l[j].1 l[j].2.1) = false) ∧ Below q.heap.size q wr) (fun s5 _ => nd - (intOf s5).toNat)
 case atStart => exact ⟨0, by go_num, by omega, fun j hj => absurd hj (by omega), Below.refl _ _⟩
 case round =>
  obtain ⟨wx, hwx⟩ : ∃ z, z = wr := ⟨_, rfl⟩
  subst hwx
  obtain ⟨i, rfl, hi, hall, hb⟩ := hrel
  have BW := Lib.hid hb
  have HALL := Lib.hid hall
  clear hb hall
  by_cases hlt : i < nd
  ·have hlt' : (i : Int) < nd := by omega
   have hir : i < l.length := by rw [← HN.out]; exact hlt
   obtain ⟨bd, od, rfl, hbd, hc0, hc1, hc2⟩ := HLq.out.at hir
   obtain ⟨dk, hdk⟩ : ∃ z, z = l[i].1 := ⟨_, rfl⟩
   obtain ⟨di, hdi⟩ : ∃ z, z = l[i].2.1 := ⟨_, rfl⟩
   obtain ⟨ds, hds⟩ : ∃ z, z = l[i].2.2 := ⟨_, rfl⟩
   have HK : Hid (0 ≤ dk ∧ dk < 256) := Lib.hid (by rw [hdk]; exact HKK.out _ (List.getElem_mem hir))
   have HBD := Lib.hid hbd
   have G0 : Hid (q.cell? ⟨bd, od + i * 3, none⟩ = some (.int .u8 dk)) := Lib.hid (by rw [hdk]; simpa using hc0)
   have G1 : Hid (q.cell? ⟨bd, od + i * 3 + 1, none⟩ = some (.int .i64 di)) := Lib.hid (by rw [hdi]; simpa using hc1)
   have G2 : Hid (q.cell? ⟨bd, od + i * 3 + 2, none⟩ = some (.int .u8 ds)) := Lib.hid (by rw [hds]; simpa using hc2)
   have STEP : Hid ((decide (ds ≠ 0) && hasA x dk di) = false → ∀ j (hj : j < i + 1) (hl : j < l.length), (decide (l[j].2.2 ≠ 0) && hasA x l[j].1 l[j].2.1) = false) := Lib.hid (fun h0 j hj hl => by
    by_cases e : j = i
    ·subst e; rw [← hdk, ← hdi, ← hds]; exact h0
    ·exact HALL.out j (by omega) hl)
   have ANY : Hid ((decide (ds ≠ 0) && hasA x dk di) = true → metL l x = true) := Lib.hid (fun h0 => List.any_eq_true.2 ⟨l[i], List.getElem_mem hir, by rw [← hdk, ← hdi, ← hds]; exact h0⟩)
   clear hbd hc0 hc1 hc2 hdk hdi hds hir
   go_upto_region 4 with fail
   by_cases hz : ds ≠ 0
   ·have d0 : (ds != 0) = true := by simpa using hz
    obtain ⟨bv, hbv⟩ : ∃ q_, q_ = hasA x dk di := ⟨_, rfl⟩
    have HV := Lib.hid hbv
    have HD : Hid ((decide (ds ≠ 0) && hasA x dk di) = bv) := Lib.hid (by rw [← hbv, decide_eq_true hz]; simp)
    clear hbv hz
    refine wp_region_held_drew (S := fun v => Below wx.heap.size wx v) (by kernel_rfl) (Below.refl wx.heap.size wx).drew (fun hHeld => ?_)
    refine tk 0 hHeld ?_;refine tk 1 hHeld ?_;refine tk 2 hHeld ?_;refine tk 3 hHeld ?_;refine tkc 4 hHeld (fun w' hSw => ((BW.out.trans (hSw.mono BW.out.size)).cell (p := ⟨bd, od + i * 3 + 2, none⟩) HBD.out).trans G2.out) ?_;refine tk 5 hHeld ?_;refine tk 6 hHeld ?_;refine tkc 7 hHeld (fun w' hSw => cell4A (((BW.out.trans (hSw.mono BW.out.size)).block _ (heap_lt X0.out)).trans X0.out)) ?_;refine tk 8 hHeld ?_;refine tk 9 hHeld ?_;refine tk 10 hHeld ?_;refine tk 11 hHeld ?_;refine tkc 12 hHeld (fun w' hSw => ((BW.out.trans (hSw.mono BW.out.size)).cell (p := ⟨bd, od + i * 3, none⟩) HBD.out).trans G0.out) ?_;refine tk 13 hHeld ?_;refine tk 14 hHeld ?_;refine tk 15 hHeld ?_;refine tk 16 hHeld ?_;refine tkc 17 hHeld (fun w' hSw => ((BW.out.trans (hSw.mono BW.out.size)).cell (p := ⟨bd, od + i * 3 + 1, none⟩) HBD.out).trans G1.out) ?_
    have tb := (Below.refl wx.heap.size wx).drew
    generalize wx.drew = q0 at tb hHeld ⊢
    have HB := Lib.hid tb
    clear tb
    refine tkr 18 (fun K hK => ?_)
    rw [if_pos (by rfl)]
    go_simp
    refine (hc.has _ x dk di q0 ⟨_, _, _, _, rfl, (HX.out.below (BW.out.trans (HB.out.mono BW.out.size))).more (BW.out.trans (HB.out.mono BW.out.size)).size⟩ HK.out.1 HK.out.2).mono ?_
    rintro e qv ⟨rfl, b⟩
    rw [← HV.out]
    have HB' := Lib.hid (HB.out.trans (b.mono HB.out.size))
    clear b HB
    try go_wp2_with fail
    refine hK.out _ _ ?_ fun hHeld => ?_;exact HB'.out;clear hK K;try simp only [zn, Act.put]
    refine tk 19 hHeld ?_
    refine wpAnyH_done (by kernel_rfl) ?_ _
    have BE := Lib.hid (BW.out.trans (HB'.out.mono BW.out.size))
    cases bv with
    | true =>
     have HA := Lib.hid (ANY.out HD.out)
     have BF := Lib.hid (BQ.out.trans (BE.out.mono BQ.out.size))
     go_wp2_with fail
     go_ret
     exact ⟨by rw [HA.out]; rfl, BF.out⟩
    | false =>
     have HS := Lib.hid (STEP.out HD.out)
     go_wp2_with fail
     go_roundw
     case measure => simp [intOf]; omega
     case rel => exact ⟨i + 1, by go_num, by omega, HS.out, BE.out⟩
   ·have d0 : (ds != 0) = false := by simpa using hz
    have HS := Lib.hid (STEP.out (by rw [decide_eq_false hz]; rfl))
    clear hz
    refine wp_region_held_drew (S := fun v => Below wx.heap.size wx v) (by kernel_rfl) (Below.refl wx.heap.size wx).drew (fun hHeld => ?_)
    refine tk 0 hHeld ?_;refine tk 1 hHeld ?_;refine tk 2 hHeld ?_;refine tk 3 hHeld ?_;refine tkc 4 hHeld (fun w' hSw => ((BW.out.trans (hSw.mono BW.out.size)).cell (p := ⟨bd, od + i * 3 + 2, none⟩) HBD.out).trans G2.out) ?_;refine tk 5 hHeld ?_;refine tk 6 hHeld ?_;refine tks 7 hHeld ?_;refine tks 8 hHeld ?_;refine tks 9 hHeld ?_;refine tks 10 hHeld ?_;refine tks 11 hHeld ?_;refine tks 12 hHeld ?_;refine tks 13 hHeld ?_;refine tks 14 hHeld ?_;refine tks 15 hHeld ?_;refine tks 16 hHeld ?_;refine tks 17 hHeld ?_;refine tks 18 hHeld ?_;refine tk 19 hHeld ?_
    have tb := (Below.refl wx.heap.size wx).drew
    generalize wx.drew = q0 at tb hHeld ⊢
    have HB := Lib.hid tb
    clear tb
    refine wpAnyH_done (by kernel_rfl) ?_ _
    have BE := Lib.hid (BW.out.trans (HB.out.mono BW.out.size))
    go_wp2_with fail
    go_roundw
    case measure => simp [intOf]; omega
    case rel => exact ⟨i + 1, by go_num, by omega, HS.out, BE.out⟩
  ·obtain rfl : nd = i := by omega
   have hlt' : ¬ (nd : Int) < nd := by omega
   have HA : Hid (metL l x = false) := Lib.hid (by
    rw [metL, Bool.eq_false_iff]
    intro h0
    obtain ⟨d, hd, h1⟩ := List.any_eq_true.1 h0
    obtain ⟨j, hj, rfl⟩ := List.getElem_of_mem hd
    rw [HALL.out j (by have := HN.out; omega) hj] at h1
    cases h1)
   have BF := Lib.hid (BQ.out.trans (BW.out.mono BQ.out.size))
   go_wp2_with fail
   go_ret
   exact ⟨by rw [HA.out]; rfl, BF.out⟩
set_option maxHeartbeats 8000000 in
theorem within14_any (hc : AreaSaid) (v y : Value) (x z : Ar) (w : World) (h : AreaV w w.heap.size v x) (h' : AreaV w w.heap.size y z) (hin : ∀ kind id, hasA x kind id = true → hasA z kind id = true) :
  Calls Tryz.prog 24 #[v, y] w fun e w' => e = .returned (.bool true) ∧ Below w.heap.size w w' := by
 have HIN := Lib.hid hin
 clear hin
 obtain ⟨u0, u1, u2, u3, rfl, hx⟩ := h
 obtain ⟨z0, z1, z2, z3, rfl, hz⟩ := h'
 obtain ⟨A0, n0, c0, rfl⟩ := in_slC hx.secs
 obtain ⟨A1, n1, c1, rfl⟩ := in_slC hx.pts
 obtain ⟨A2, n2, c2, rfl⟩ := in_slC hx.sigs
 obtain ⟨A3, n3, c3, rfl⟩ := in_slC hx.routes
 obtain ⟨B0, m0, e0, rfl⟩ := in_slC hz.secs
 obtain ⟨B1, m1, e1, rfl⟩ := in_slC hz.pts
 obtain ⟨B2, m2, e2, rfl⟩ := in_slC hz.sigs
 obtain ⟨B3, m3, e3, rfl⟩ := in_slC hz.routes
 obtain ⟨h0, h1, hb⟩ := two_boxes w (.cells #[.slice A0 n0 c0, .slice A1 n1 c1, .slice A2 n2 c2, .slice A3 n3 c3] 24) (.cells #[.slice B0 m0 e0, .slice B1 m1 e1, .slice B2 m2 e2, .slice B3 m3 e3] 24)
 go_enter Tryz.func24, Tryz.ntmps24
 go_upto_region 1 with fail
 generalize (w.alloc (.cells #[.slice A0 n0 c0, .slice A1 n1 c1, .slice A2 n2 c2, .slice A3 n3 c3] 24)).alloc (.cells #[.slice B0 m0 e0, .slice B1 m1 e1, .slice B2 m2 e2, .slice B3 m3 e3] 24) = q at h0 h1 hb ⊢
 have X2 := Lib.hid h0
 have X3 := Lib.hid h1
 have BQ := Lib.hid hb
 have A2_ := Lib.hid ((hx.below hb).more hb.size)
 have A3_ := Lib.hid ((hz.below hb).more hb.size)
 clear h0 h1 hb hx hz
 go_upto_region 2 with fail
 go_loopw [5, 6] (fun s5 s6 wr => ∃ k : Nat, s5 = .int .u8 ((k : Int) + 1) ∧ k ≤ 4 ∧ Below q.heap.size q wr) (fun s5 _ _ => 5 - (intOf s5).toNat)
 case atStart => exact ⟨0, by go_num, by omega, Below.refl _ _⟩
 case round =>
  obtain ⟨wm, hwm⟩ : ∃ z, z = wr := ⟨_, rfl⟩
  subst hwm
  obtain ⟨k, rfl, hk, hb⟩ := hrel
  have BW := Lib.hid hb
  clear hb
  by_cases hlt : k < 4
  ·have d0 : (k : Int) + 1 ≤ 4 := by omega
   have d1 : decide ((k : Int) + 1 ≤ 4) = true := decide_eq_true d0
   have hw1 : IntKind.u8.wrap ((k : Int) + 1 + 1) = (k : Int) + 1 + 1 := by
    have := wrap_u8C (k + 2) (by omega)
    push_cast at this
    rw [show (k : Int) + 1 + 1 = (k : Int) + 2 by omega]
    exact this
   go_wp2_with fail
   go_loopw [6] (fun s6 wr => ∃ j : Nat, s6 = .int .i64 ((j : Int) + 1) ∧ j ≤ 99 ∧ Below q.heap.size q wr) (fun s6 _ => 100 - (intOf s6).toNat)
   case atStart => exact ⟨0, by go_num, by omega, BW.out⟩
   case round =>
    obtain ⟨wx, hwx⟩ : ∃ z, z = wr := ⟨_, rfl⟩
    subst hwx
    obtain ⟨j, rfl, hj, hb⟩ := hrel
    have BW2 := Lib.hid hb
    clear hb
    by_cases hlj : j < 99
    ·have e0 : (j : Int) + 1 < 100 := by omega
     have e1 : decide ((j : Int) + 1 < 100) = true := decide_eq_true e0
     have hw2 : IntKind.i64.wrap ((j : Int) + 1 + 1) = (j : Int) + 1 + 1 := wrap_id (by omega) (by omega)
     have Y2 := Lib.hid ((BW2.out.block _ (heap_lt X2.out)).trans X2.out)
     have B2_ := Lib.hid ((A2_.out.below BW2.out).more BW2.out.size)
     cases hxv : hasA x ((k : Int) + 1) ((j : Int) + 1) with
     | false =>
      obtain ⟨k0, k1, k2, k3⟩ := cell4A Y2.out
      go_wp2_with fail
      refine (hc.has _ x ((k : Int) + 1) ((j : Int) + 1) wx ⟨_, _, _, _, rfl, B2_.out⟩ (by omega) (by omega)).mono ?_
      rintro e v1 ⟨rfl, bN⟩
      rw [hxv]
      clear k0 k1 k2 k3
      have tBW := BW2.out.trans (bN.mono BW2.out.size)
      clear BW2 bN
      have BW2 := Lib.hid tBW
      clear tBW
      go_wp2_with fail
      go_roundw
      case measure => simp [intOf]; omega
      case rel => exact ⟨j + 1, by push_cast; rfl, by omega, BW2.out⟩
     | true =>
      have hzv := HIN.out _ _ hxv
      obtain ⟨k0, k1, k2, k3⟩ := cell4A Y2.out
      go_wp2_with fail
      refine (hc.has _ x ((k : Int) + 1) ((j : Int) + 1) wx ⟨_, _, _, _, rfl, B2_.out⟩ (by omega) (by omega)).mono ?_
      rintro e v1 ⟨rfl, bN⟩
      rw [hxv]
      clear k0 k1 k2 k3
      have tBW := BW2.out.trans (bN.mono BW2.out.size)
      have Y3 := Lib.hid ((tBW.block _ (heap_lt X3.out)).trans X3.out)
      have B3_ := Lib.hid ((A3_.out.below tBW).more tBW.size)
      clear BW2 bN
      have BW3 := Lib.hid tBW
      clear tBW
      obtain ⟨k0, k1, k2, k3⟩ := cell4A Y3.out
      go_wp2_with fail
      refine (hc.has _ z ((k : Int) + 1) ((j : Int) + 1) v1 ⟨_, _, _, _, rfl, B3_.out⟩ (by omega) (by omega)).mono ?_
      rintro e v2 ⟨rfl, bN⟩
      rw [hzv]
      clear k0 k1 k2 k3
      have BW2 := Lib.hid (BW3.out.trans (bN.mono BW3.out.size))
      clear bN BW3
      go_wp2_with fail
      go_roundw
      case measure => simp [intOf]; omega
      case rel => exact ⟨j + 1, by push_cast; rfl, by omega, BW2.out⟩
    ·obtain rfl : j = 99 := by omega
     go_wp2_with fail
     go_roundw
     case measure => simp [intOf]; omega
     case rel => exact ⟨k + 1, by push_cast; rfl, by omega, BW2.out⟩
  ·obtain rfl : k = 4 := by omega
   have BF := Lib.hid (BQ.out.trans (BW.out.mono BQ.out.size))
   go_wp2_with fail
   go_ret
   exact ⟨rfl, BF.out⟩
end Go.Proofs.YtneeocnjfnneoaaGreat
