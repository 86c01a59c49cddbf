/-
 The statement StateRest: in the state in which all is at rest nobody holds a section, and nothing is asked; any route may be put Set in it alone, if its points are called as it asks.
 Conditions: none.
-/
import Derived.Test.YtemmgmjhomgbbaaQStaMix
import Derived.Test.YtemmgmjhomgbbaaQGStaOne
import Derived.Test.YtemmgmjhomgbbaaQGStaRef
import Derived.Test.YtemmgmjhomgbbaaQGStaMem
import Derived.Test.YtemmgmjhomgbbaaQGWayRefF
import Derived.Test.YtemmgmjhomgbbaaQGSndM
import Derived.Test.YtemmgmjhomgbbaaQWayPK
import Derived.Test.YtemmgmjhomgbbaaQGStaPI
set_option linter.unusedVariables false
set_option linter.unusedSimpArgs false
set_option maxRecDepth 100000
namespace Go.Proofs.Ytemmgmjhomgbbaa
open Go.RowKit

theorem infoWy15 : (Try.prog.info? 53).map (·.size) = some 4 := by kernel_rfl
theorem restE_snd (p : Pl) : restE p = sndE p := rfl
theorem staE_yes {p : Pl} {s : St15} (h : StMay p s) : staE p s = 0 := by rw [staE, if_pos (soundP_true h.sound), if_pos (stMay_iff.2 h)]
theorem staE_bad {p : Pl} {s : St15} (hs : PlanSound p) (h : ¬ StMay p s) : staE p s = 8 := by rw [staE, if_pos (soundP_true hs), stMay_no.2 h]; rfl
theorem rest_holder {p : Pl} (h : PlanSound p) {sec : Int} (hs : sec ∈ p.secs.map (fun x : Sec => x.1)) : whoE p (restS p) sec = 0 ∧ whoV p (restS p) sec = 0 := by
 have e : whoE p (restS p) sec = 0 := by rw [whoE, staE_yes (rest_may h)]; exact if_pos hs
 exact ⟨e, by rw [whoV, if_pos e, rest_who]⟩
theorem rest_asks {p : Pl} (h : PlanSound p) {pt : Int} (hs : pt ∈ p.pts.map (fun x : Jn => x.1)) : lieE p (restS p) pt = 0 ∧ lieV p (restS p) pt = 0 := by
 have e : lieE p (restS p) pt = 0 := by rw [lieE, staE_yes (rest_may h)]; exact if_pos hs
 exact ⟨e, by rw [lieV, if_pos e, rest_lie]⟩
theorem ListIn.take15 {α : Type} {sz : Nat} {R : El α} {W : World} {B n c k : Nat} {A : Option Addr} {l : List α} (h : ListIn sz R W B (.slice A n c) l) (hk : k ≤ l.length) : ListIn sz R W B (.slice A k c) (l.take k) := by
 obtain ⟨A', c', e, h1, h2, hn, h3⟩ := h
 cases e
 have hl : (l.take k).length = k := by rw [List.length_take]; omega
 refine ⟨A, c, by rw [hl], by omega, h2, hn, fun hp => ?_⟩
 obtain ⟨b, off, ha, hb, hc⟩ := h3 (by omega)
 exact ⟨b, off, ha, hb, fun j hj => by simpa using hc j (by omega)⟩
theorem rest_set {p : Pl} {i : Nat} (hi : i < (restS p).lk.length) : (⟨(restS p).tr, (restS p).sw, (restS p).lk.set i ((restS p).lk[i].1, 1, (restS p).lk[i].2.2)⟩ : St15) = setS p i fun _ => 0 := by
 have hi' : i < p.routes.length := by rw [(restS_len p).1] at hi; exact hi
 simp [restS, setS, rtN_at hi']
set_option maxHeartbeats 16000000 in
theorem walk_state_rest (hc : StaSaid) (hs : SndSaid) (hw : WaySaid) (v : Value) (p : Pl) (at_ : Int) (w : World) (h : PlanV w w.heap.size v p) :
  Calls Try.prog 7 #[v, .int .i64 at_] w fun e w' => e = .returned (.bool true) ∧ Below w.heap.size w w' := by
 obtain ⟨p2, p3, p4, p5, rfl, h⟩ := h
 obtain ⟨A2, a2, rfl, -, -⟩ := h.secs.slice
 obtain ⟨b2, hb2⟩ : ∃ n, n = p.secs.length := ⟨_, rfl⟩
 have P2 : Hid (SectsIn w w.heap.size (.slice A2 b2 a2) p.secs) := Lib.hid (by rw [hb2]; exact h.secs)
 rw [← hb2]
 obtain ⟨A3, a3, rfl, -, -⟩ := h.pts.slice
 obtain ⟨b3, hb3⟩ : ∃ n, n = p.pts.length := ⟨_, rfl⟩
 have P3 : Hid (JoinsIn w w.heap.size (.slice A3 b3 a3) p.pts) := Lib.hid (by rw [hb3]; exact h.pts)
 rw [← hb3]
 obtain ⟨A4, a4, rfl, -, -⟩ := h.sigs.slice
 obtain ⟨b4, hb4⟩ : ∃ n, n = p.sigs.length := ⟨_, rfl⟩
 have P4 : Hid (SigsIn w w.heap.size (.slice A4 b4 a4) p.sigs) := Lib.hid (by rw [hb4]; exact h.sigs)
 rw [← hb4]
 obtain ⟨A5, a5, rfl, -, -⟩ := h.routes.slice
 obtain ⟨b5, hb5⟩ : ∃ n, n = p.routes.length := ⟨_, rfl⟩
 have P5 : Hid (RoutesIn w w.heap.size (.slice A5 b5 a5) p.routes) := Lib.hid (by rw [hb5]; exact h.routes)
 rw [← hb5]
 clear h
 have HBL : Hid (b2 = p.secs.length ∧ b3 = p.pts.length ∧ b5 = p.routes.length) := Lib.hid ⟨hb2, hb3, hb5⟩
 clear hb2 hb3 hb4 hb5
 have PV : Hid (∀ W, Below w.heap.size w W → PlanV W W.heap.size (.agg #[.int .i64 p.ver, .int .i64 p.par, .slice A2 b2 a2, .slice A3 b3 a3, .slice A4 b4 a4, .slice A5 b5 a5]) p) := Lib.hid (fun W b => ⟨_, _, _, _, rfl, ⟨(P2.out.below secR_ b).more secR_ b.size, (P3.out.below joinR b).more joinR b.size, (P4.out.below sigR b).more sigR b.size, (P5.out.below routeR b).more routeR b.size⟩⟩)
 have x0_ := heap_alloc_self w (.cells #[.int .i64 p.ver, .int .i64 p.par, .slice A2 b2 a2, .slice A3 b3 a3, .slice A4 b4 a4, .slice A5 b5 a5] 35)
 have b0_ := below_new w (.cells #[.int .i64 p.ver, .int .i64 p.par, .slice A2 b2 a2, .slice A3 b3 a3, .slice A4 b4 a4, .slice A5 b5 a5] 35)
 go_enter Try.func7, Try.ntmps7
 go_upto_region 1 with fail
 generalize w.alloc (.cells #[.int .i64 p.ver, .int .i64 p.par, .slice A2 b2 a2, .slice A3 b3 a3, .slice A4 b4 a4, .slice A5 b5 a5] 35) = q at x0_ b0_ ⊢
 have X0 := Lib.hid x0_
 have BQ := Lib.hid b0_
 clear x0_ b0_
 go_wp2_with fail
 refine (alive15 hc _).mono ?_
 rintro e wa ⟨rfl, b⟩
 replace X0 := Lib.hid ((b.block _ (heap_lt X0.out)).trans X0.out)
 replace BQ := Lib.hid (BQ.out.trans (b.mono BQ.out.size))
 clear b
 obtain ⟨k0, k1, k2, k3, k4, k5⟩ := cell6_of X0.out
 go_wp2_with fail
 refine (rgreatP_any _ p wa (PV.out wa BQ.out)).mono ?_
 rintro e w1 ⟨⟨g, rfl⟩, b⟩
 clear k0 k1 k2 k3 k4 k5
 replace X0 := Lib.hid ((b.block _ (heap_lt X0.out)).trans X0.out)
 replace BQ := Lib.hid (BQ.out.trans (b.mono BQ.out.size))
 clear b
 cases g with
 | true =>
  go_wp2_with fail
  go_ret
  exact ⟨rfl, BQ.out⟩
 | false =>
 obtain ⟨k0, k1, k2, k3, k4, k5⟩ := cell6_of X0.out
 go_wp2_with fail
 refine (hc.at_ _ p w1 (PV.out w1 BQ.out)).mono ?_
 rintro e w2 ⟨u0, u1, u2, rfl, ho, b⟩
 obtain ⟨st, hst⟩ : ∃ z, z = restV p := ⟨_, rfl⟩
 obtain ⟨E, hE⟩ : ∃ z, z = restE p := ⟨_, rfl⟩
 rw [← hst] at ho
 rw [← hE]
 obtain ⟨T0, x0, rfl⟩ := ho.tr.slice
 obtain ⟨T1, x1, rfl⟩ := ho.sw.slice
 obtain ⟨T2, x2, rfl⟩ := ho.lk.slice
 obtain ⟨n0, hn0⟩ : ∃ n, n = st.tr.length := ⟨_, rfl⟩
 obtain ⟨n1, hn1⟩ : ∃ n, n = st.sw.length := ⟨_, rfl⟩
 obtain ⟨n2, hn2⟩ : ∃ n, n = st.lk.length := ⟨_, rfl⟩
 rw [← hn0, ← hn1, ← hn2] at ho
 rw [← hn0, ← hn1, ← hn2]
 have HN : Hid (n0 = st.tr.length ∧ n1 = st.sw.length ∧ n2 = st.lk.length) := Lib.hid ⟨hn0, hn1, hn2⟩
 have LO : Hid (w.heap.size < w1.heap.size) := Lib.hid (heap_lt X0.out)
 have HST := Lib.hid hst
 have HE := Lib.hid hE
 clear hn0 hn1 hn2 hst hE k0 k1 k2 k3 k4 k5
 replace X0 := Lib.hid ((b.block _ (heap_lt X0.out)).trans X0.out)
 replace BQ := Lib.hid (BQ.out.trans (b.mono BQ.out.size))
 clear b
 go_upto_region 5 with ((with_reducible show wpList _ _ _ (⟨none, .store _ _ _, _, _, _, _⟩ :: _) _ _); refine wpList_store_rowS rfl _ (.tmp 6) (.tmp 30) rfl w2.heap.size rfl (c' := #[.slice T0 n0 x0, .slice T1 n1 x1, .slice T2 n2 x2]) rfl (heap_alloc_self w2 (.cells #[.slice none 0 0, .slice none 0 0, .slice none 0 0] 26)) infoSt15 rfl (by simp [Value.oneCell']) ?_)
 rw [World.setRow_alloc_new]
 have hx1 := heap_alloc_self w2 (.cells #[.slice T0 n0 x0, .slice T1 n1 x1, .slice T2 n2 x2] 26)
 have b := below_new w2 (.cells #[.slice T0 n0 x0, .slice T1 n1 x1, .slice T2 n2 x2] 26)
 have hO := ho.below b
 generalize w2.alloc (.cells #[.slice T0 n0 x0, .slice T1 n1 x1, .slice T2 n2 x2] 26) = w3 at b hx1 hO ⊢
 obtain ⟨p6, hp6⟩ : ∃ n, n = w2.heap.size := ⟨_, rfl⟩
 rw [← hp6] at hx1 ⊢
 replace X0 := Lib.hid ((b.block _ (heap_lt X0.out)).trans X0.out)
 replace BQ := Lib.hid (BQ.out.trans (b.mono BQ.out.size))
 have X6 := Lib.hid hx1
 have SO := Lib.hid hO
 clear b hx1 hp6 hO ho
 by_cases h0 : E = 0
 rotate_left
 ·have d0 : (E != 0) = true := by simpa using h0
  have HZ : Hid (st.tr.length = 0) := Lib.hid (by
   rw [HST.out, restV]
   have e := HE.out
   rw [restE] at e
   split
   ·rename_i g; rw [if_pos g] at e; exact absurd e h0
   ·rfl)
  have HES : Hid (sndE p = E) := Lib.hid (by rw [← restE_snd, HE.out])
  have n00 : n0 = 0 := by rw [HN.out.1, HZ.out]
  clear h0
  obtain ⟨k0, k1, k2, k3, k4, k5⟩ := cell6_of X0.out
  obtain ⟨l0, l1, l2⟩ := cell3_of X6.out
  go_wp2_with fail
  refine (hs.check _ p w3 (PV.out w3 BQ.out)).mono ?_
  rintro e w4 ⟨rfl, b⟩
  rw [HES.out]
  clear k0 k1 k2 k3 k4 k5 l0 l1 l2
  replace X6 := Lib.hid ((b.block _ (heap_lt X6.out)).trans X6.out)
  replace BQ := Lib.hid (BQ.out.trans (b.mono BQ.out.size))
  clear b
  obtain ⟨l0, l1, l2⟩ := cell3_of X6.out
  go_wp2_with fail
  go_ret
  exact ⟨rfl, BQ.out⟩
 have HSD : Hid (PlanSound p) := Lib.hid (by
  have e := HE.out
  rw [h0, restE] at e
  by_cases g : soundP p = true
  ·exact soundP_iff.1 g
  ·rw [if_neg g] at e; exact absurd e (by decide))
 have HSV : Hid (st = restS p) := Lib.hid (by rw [HST.out, restV, if_pos (soundP_true HSD.out)])
 subst h0
 obtain rfl := HSV.out
 have HBN : Hid (n0 = b2 ∧ n1 = b3 ∧ n2 = b5 ∧ b2 ≤ 16 ∧ b3 ≤ 6 ∧ b5 ≤ 16) := Lib.hid (by
  have h1 := HN.out
  have h2 := restS_len p
  have h3 := HBL.out
  have g1 := HSD.out.may.secs.n
  have g2 := HSD.out.may.pts.n
  have g3 := HSD.out.may.n
  omega)
 have hm2 : b2 ≤ 9223372036854775807 := by have := HBN.out; omega
 have hm3 : b3 ≤ 9223372036854775807 := by have := HBN.out; omega
 have hn2 : n2 ≤ 9223372036854775807 := by have := HBN.out; omega
 have hn1 : n1 ≤ 9223372036854775807 := by have := HBN.out; omega
 have d0 : ((0 : Int) != 0) = false := by decide
 clear HST HSV HE
 obtain ⟨k0, k1, k2, k3, k4, k5⟩ := cell6_of X0.out
 go_wp2_with fail
 clear k0 k1 k2 k3 k4 k5 d0
 go_loopw [8, 9, 10] (fun s8 s9 s10 wr => ∃ i : Nat, s8 = .int .i64 i ∧ i ≤ b2 ∧ Below w3.heap.size w3 wr) (fun s8 _ _ _ => b2 - (intOf s8).toNat)
 case atStart => exact ⟨0, by go_num, by omega, Below.refl _ _⟩
 case round =>
  obtain ⟨wx, hwx⟩ : ∃ z, z = wr := ⟨_, rfl⟩
  subst hwx
  obtain ⟨i, rfl, hi, hb⟩ := hrel
  have BL := Lib.hid hb
  have BF : Hid (Below w.heap.size w wx) := Lib.hid (BQ.out.trans (hb.mono BQ.out.size))
  have SW := Lib.hid (SO.out.below hb)
  replace X0 := Lib.hid ((hb.block _ (heap_lt X0.out)).trans X0.out)
  replace X6 := Lib.hid ((hb.block _ (heap_lt X6.out)).trans X6.out)
  clear hb
  by_cases hlt : i < b2
  ·have hlt' : (i : Int) < b2 := by omega
   have hir : i < p.secs.length := by have := HBL.out; omega
   obtain ⟨bs, os, hes, hbs, hs0, -⟩ := (P2.out.below secR_ BF.out).at hir
   cases hes
   obtain ⟨a1, ha1⟩ : ∃ z, z = p.secs[i].1 := ⟨_, rfl⟩
   have HMEM : Hid (a1 ∈ p.secs.map (fun x => x.1)) := Lib.hid (by rw [ha1]; exact List.mem_map.2 ⟨_, List.getElem_mem hir, rfl⟩)
   rw [← ha1] at hs0
   have GE : Hid (wx.cell? ⟨bs, os + i * 3, none⟩ = some (.int .i64 a1)) := Lib.hid (by simpa using hs0)
   clear hs0 ha1 hbs hir
   obtain ⟨k0, k1, k2, k3, k4, k5⟩ := cell6_of X0.out
   go_upto_region 10 with fail
   clear k0 k1 k2 k3 k4 k5
   refine wp_region_held_drew (S := fun v => Below wx.heap.size wx v) (by kernel_rfl) (Below.refl wx.heap.size wx).drew (fun hHeld => ?_)
   refine tkc 0 hHeld (fun w' hSw => cell6_of ((hSw.block _ (heap_lt X0.out)).trans X0.out)) ?_;refine tkc 1 hHeld (fun w' hSw => cell3_of ((hSw.block _ (heap_lt X6.out)).trans X6.out)) ?_;refine tk 2 hHeld ?_;refine tkc 3 hHeld (fun w' hSw => cell6_of ((hSw.block _ (heap_lt X0.out)).trans X0.out)) ?_;refine tk 4 hHeld ?_;refine tk 5 hHeld ?_;refine tk 6 hHeld ?_;refine tkc 7 hHeld (fun w' hSw => (hSw.cell (cell_lt GE.out)).trans GE.out) ?_
   have tb := (Below.refl wx.heap.size wx).drew
   generalize wx.drew = q0 at tb hHeld ⊢
   have HQ := Lib.hid tb
   clear tb
   refine tkr 8 (fun K hK => ?_)
   go_simp
   refine (hc.holder _ _ p (restS p) a1 q0 (PV.out q0 (BF.out.trans (HQ.out.mono BF.out.size))) ⟨_, _, _, rfl, (SW.out.in_.below HQ.out).more HQ.out.size⟩).mono ?_
   rintro e q1 ⟨rfl, b⟩
   rw [(rest_holder HSD.out HMEM.out).1, (rest_holder HSD.out HMEM.out).2]
   have HQ1 := Lib.hid (HQ.out.trans (b.mono HQ.out.size))
   clear b HQ
   try go_wp2_with fail
   refine hK.out _ _ ?_ fun hHeld => ?_;exact HQ1.out;clear hK K;try simp only [zn, Act.put]
   refine tk 9 hHeld ?_;refine tk 10 hHeld ?_;refine tk 11 hHeld ?_;refine tk 12 hHeld ?_;refine tk 13 hHeld ?_
   refine wpAnyH_done (by kernel_rfl) ?_ _
   have BN := Lib.hid (BL.out.trans (HQ1.out.mono BL.out.size))
   clear HQ1 GE
   go_wp2_with fail
   go_roundw
   case measure => simp [intOf]; omega
   case rel => exact ⟨i + 1, by go_num, by omega, BN.out⟩
  ·obtain rfl : b2 = i := by omega
   have hlt' : ¬ (b2 : Int) < b2 := by omega
   obtain ⟨k0, k1, k2, k3, k4, k5⟩ := cell6_of X0.out
   go_upto_region 14 with fail
   clear k0 k1 k2 k3 k4 k5
   have BQ := BF
   have SO := SW
   have BL3 := BL
   clear BL
   obtain ⟨w3, hw3⟩ : ∃ z, z = wx := ⟨_, rfl⟩
   subst hw3
   go_loopw [11, 12, 13] (fun s11 s12 s13 wr => ∃ i : Nat, s11 = .int .i64 i ∧ i ≤ b3 ∧ Below w3.heap.size w3 wr) (fun s11 _ _ _ => b3 - (intOf s11).toNat)
   case atStart => exact ⟨0, by go_num, by omega, Below.refl _ _⟩
   case round =>
    obtain ⟨wx, hwx⟩ : ∃ z, z = wr := ⟨_, rfl⟩
    subst hwx
    obtain ⟨i, rfl, hi, hb⟩ := hrel
    have BL := Lib.hid hb
    have BF : Hid (Below w.heap.size w wx) := Lib.hid (BQ.out.trans (hb.mono BQ.out.size))
    have SW := Lib.hid (SO.out.below hb)
    replace X0 := Lib.hid ((hb.block _ (heap_lt X0.out)).trans X0.out)
    replace X6 := Lib.hid ((hb.block _ (heap_lt X6.out)).trans X6.out)
    clear hb
    by_cases hlt : i < b3
    ·have hlt' : (i : Int) < b3 := by omega
     have hir : i < p.pts.length := by have := HBL.out; omega
     obtain ⟨bs, os, hes, hbs, hs0, -⟩ := (P3.out.below joinR BF.out).at hir
     cases hes
     obtain ⟨a1, ha1⟩ : ∃ z, z = p.pts[i].1 := ⟨_, rfl⟩
     have HMEM : Hid (a1 ∈ p.pts.map (fun x => x.1)) := Lib.hid (by rw [ha1]; exact List.mem_map.2 ⟨_, List.getElem_mem hir, rfl⟩)
     rw [← ha1] at hs0
     have GE : Hid (wx.cell? ⟨bs, os + i * 2, none⟩ = some (.int .i64 a1)) := Lib.hid (by simpa using hs0)
     clear hs0 ha1 hbs hir
     obtain ⟨k0, k1, k2, k3, k4, k5⟩ := cell6_of X0.out
     go_upto_region 16 with fail
     clear k0 k1 k2 k3 k4 k5
     refine wp_region_held_drew (S := fun v => Below wx.heap.size wx v) (by kernel_rfl) (Below.refl wx.heap.size wx).drew (fun hHeld => ?_)
     refine tkc 0 hHeld (fun w' hSw => cell6_of ((hSw.block _ (heap_lt X0.out)).trans X0.out)) ?_;refine tkc 1 hHeld (fun w' hSw => cell3_of ((hSw.block _ (heap_lt X6.out)).trans X6.out)) ?_;refine tk 2 hHeld ?_;refine tkc 3 hHeld (fun w' hSw => cell6_of ((hSw.block _ (heap_lt X0.out)).trans X0.out)) ?_;refine tk 4 hHeld ?_;refine tk 5 hHeld ?_;refine tk 6 hHeld ?_;refine tkc 7 hHeld (fun w' hSw => (hSw.cell (cell_lt GE.out)).trans GE.out) ?_
     have tb := (Below.refl wx.heap.size wx).drew
     generalize wx.drew = q0 at tb hHeld ⊢
     have HQ := Lib.hid tb
     clear tb
     refine tkr 8 (fun K hK => ?_)
     go_simp
     refine (hc.asked _ _ p (restS p) a1 q0 (PV.out q0 (BF.out.trans (HQ.out.mono BF.out.size))) ⟨_, _, _, rfl, (SW.out.in_.below HQ.out).more HQ.out.size⟩).mono ?_
     rintro e q1 ⟨rfl, b⟩
     rw [(rest_asks HSD.out HMEM.out).1, (rest_asks HSD.out HMEM.out).2]
     have HQ1 := Lib.hid (HQ.out.trans (b.mono HQ.out.size))
     clear b HQ
     try go_wp2_with fail
     refine hK.out _ _ ?_ fun hHeld => ?_;exact HQ1.out;clear hK K;try simp only [zn, Act.put]
     refine tk 9 hHeld ?_;refine tk 10 hHeld ?_;refine tk 11 hHeld ?_;refine tk 12 hHeld ?_;refine tk 13 hHeld ?_
     refine wpAnyH_done (by kernel_rfl) ?_ _
     have BN := Lib.hid (BL.out.trans (HQ1.out.mono BL.out.size))
     clear HQ1 GE
     go_wp2_with fail
     go_roundw
     case measure => simp [intOf]; omega
     case rel => exact ⟨i + 1, by go_num, by omega, BN.out⟩
    ·obtain rfl : b3 = i := by omega
     have hlt' : ¬ (b3 : Int) < b3 := by omega
     have BQ := BF
     have SO := SW
     clear BL
     obtain ⟨w4, hw4⟩ : ∃ z, z = wx := ⟨_, rfl⟩
     subst hw4
     obtain ⟨k0, k1, k2, k3, k4, k5⟩ := cell6_of X0.out
     obtain ⟨l0, l1, l2⟩ := cell3_of X6.out
     by_cases hn : at_ < 0
     ·have d0 : decide (at_ < 0) = true := decide_eq_true hn
      go_wp2_with fail
      go_ret
      exact ⟨rfl, BQ.out⟩
     have d0 : decide (at_ < 0) = false := decide_eq_false hn
     by_cases hg : at_ ≥ (n2 : Int)
     ·have d1 : decide (at_ ≥ (n2 : Int)) = true := decide_eq_true hg
      go_wp2_with fail
      go_ret
      exact ⟨rfl, BQ.out⟩
     have d1 : decide (at_ ≥ (n2 : Int)) = false := decide_eq_false hg
     obtain ⟨i, rfl⟩ : ∃ i : Nat, at_ = (i : Int) := ⟨at_.toNat, by omega⟩
     have his : i < (restS p).lk.length := by have := HN.out; omega
     have hir : i < p.routes.length := by rw [(restS_len p).1] at his; exact his
     have hlt2 : (i : Int) < n2 := by omega
     obtain ⟨bl, ol, rfl, hbl, hc0, -⟩ := SO.out.in_.lk.at his
     have e1 : (restS p).lk[i].1 = p.routes[i].id := by simp [restS]
     rw [e1] at hc0
     obtain ⟨id, hid⟩ : ∃ z, z = p.routes[i].id := ⟨_, rfl⟩
     rw [← hid] at hc0
     have GE : Hid (w4.cell? ⟨bl, ol + i * 4, none⟩ = some (.int .i64 id)) := Lib.hid (by simpa using hc0)
     have HIR := Lib.hid hir
     have HIS := Lib.hid his
     obtain ⟨x, hx⟩ : ∃ z, z = wayR p p.routes[i] := ⟨_, rfl⟩
     have HX := Lib.hid hx
     have HW : Hid (wayE p id = 0 ∧ wayV p id = x) := Lib.hid (by rw [hid, hx]; exact way_at15 HSD.out hir)
     clear hc0 e1 hid hx hbl hir his
     go_upto_region 21 with fail
     clear k0 k1 k2 k3 k4 k5 l0 l1 l2 d0 d1 hn hg
     obtain ⟨e0, he0⟩ : ∃ z, z = x.path.length := ⟨_, rfl⟩
     obtain ⟨e1, he1⟩ : ∃ z, z = x.over.length := ⟨_, rfl⟩
     obtain ⟨e2, he2⟩ : ∃ z, z = x.asks.length := ⟨_, rfl⟩
     obtain ⟨nr, hnr⟩ : ∃ z, z = x.near := ⟨_, rfl⟩
     have HZ : Hid (e0 = x.path.length ∧ e1 = x.over.length ∧ e2 = x.asks.length ∧ nr = x.near) := Lib.hid ⟨he0, he1, he2, hnr⟩
     have HE2 := Lib.hid he2
     clear he0 he1 he2 hnr
     go_cut [14, 15] from 107 to 117 (fun s14 s15 wx => ∃ p14 E0 f0 E1 f1 E2 f2, s14 = .pointer (some ⟨p14, 0, none⟩) ∧ s15 = .int .i64 0 ∧ wx.heap[p14]? = some (.cells #[.slice E0 e0 f0, .slice E1 e1 f1, .slice E2 e2 f2, .int .i64 nr] 53 (0, 0)) ∧ WyOwn wx w4.heap.size (.slice E0 e0 f0) (.slice E1 e1 f1) (.slice E2 e2 f2) x ∧ Below w4.heap.size w4 wx)
     case first =>
      refine wp_region_held_drew (S := fun v => Below w4.heap.size w4 v) (by kernel_rfl) (Below.refl w4.heap.size w4).drew (fun hHeld => ?_)
      refine tkc 0 hHeld (fun w' hSw => cell6_of ((hSw.block _ (heap_lt X0.out)).trans X0.out)) ?_;refine tk 1 hHeld ?_;refine tkc 2 hHeld (fun w' hSw => cell3_of ((hSw.block _ (heap_lt X6.out)).trans X6.out)) ?_;refine tk 3 hHeld ?_;refine tk 4 hHeld ?_;refine tk 5 hHeld ?_;refine tkc 6 hHeld (fun w' hSw => (hSw.cell (cell_lt GE.out)).trans GE.out) ?_
      have tb := (Below.refl w4.heap.size w4).drew
      generalize w4.drew = q0_ at tb hHeld ⊢
      have HB := Lib.hid tb
      clear tb
      refine wpAnyH_ready (rs := [7, 11]) (by kernel_rfl) (by simp) ?_
      refine AllReadyH.cons rfl (fun K hK => ?_) (AllReadyH.cons rfl (fun K hK => ?_) AllReadyH.nil)
      ·go_simp
       refine (hw.of _ p id q0_ (PV.out q0_ (BQ.out.trans (HB.out.mono BQ.out.size)))).mono ?_
       rintro e qA_ ⟨u0, u1, u2, rfl, hu_, b⟩
       rw [HW.out.2] at hu_
       rw [HW.out.1, HW.out.2]
       obtain ⟨E0, f0, rfl⟩ := hu_.path.slice
       obtain ⟨E1, f1, rfl⟩ := hu_.over.slice
       obtain ⟨E2, f2, rfl⟩ := hu_.asks.slice
       have hu0 := hu_.mono HB.out.size
       clear hu_
       rw [← HZ.out.1, ← HZ.out.2.1, ← HZ.out.2.2.1] at hu0
       rw [← HZ.out.1, ← HZ.out.2.1, ← HZ.out.2.2.1, ← HZ.out.2.2.2]
       have HB' := Lib.hid (HB.out.trans (b.mono HB.out.size))
       have OU : Hid (WyOwn qA_ w4.heap.size (.slice E0 e0 f0) (.slice E1 e1 f1) (.slice E2 e2 f2) x) := Lib.hid hu0
       clear hu0
       clear HB
       have HB := HB'
       clear HB' b
       try go_wp2_with fail
       refine hK.out _ _ ?_ fun hHeld => ?_;exact HB.out;clear hK K;try simp only [zn, Act.put]
       refine tk 8 hHeld ?_;refine tk 9 hHeld ?_;refine tk 10 hHeld ?_
       refine tkr 11 (fun K hK => ?_)
       go_simp
       have tb := HB.out.alloc HB.out.size (.cells #[.slice none 0 0, .slice none 0 0, .slice none 0 0, .int .i64 0] 53)
       have t6 := heap_alloc_self qA_ (.cells #[.slice none 0 0, .slice none 0 0, .slice none 0 0, .int .i64 0] 53)
       have tO := OU.out.below (below_new qA_ (.cells #[.slice none 0 0, .slice none 0 0, .slice none 0 0, .int .i64 0] 53))
       refine hK.out _ _ ?_ fun hHeld => ?_;exact tb;clear hK K;try simp only [zn, Act.put]
       generalize qA_.alloc (.cells #[.slice none 0 0, .slice none 0 0, .slice none 0 0, .int .i64 0] 53) = qB_ at tb t6 tO hHeld ⊢
       obtain ⟨p14, hp⟩ : ∃ n, n = qA_.heap.size := ⟨_, rfl⟩
       rw [← hp] at t6 ⊢
       have PLB : Hid (w4.heap.size ≤ p14) := Lib.hid (by rw [hp]; exact HB.out.size)
       clear HB hp OU
       have HB := Lib.hid tb
       have XB := Lib.hid t6
       have OU := Lib.hid tO
       clear tb t6 tO
       refine tkr 12 (fun K hK => ?_)
       rw [if_pos (by rfl)]
       refine wp_store_rowS 53 (.tmp 14) (.tmp 116) rfl p14 rfl (c' := #[.slice E0 e0 f0, .slice E1 e1 f1, .slice E2 e2 f2, .int .i64 nr]) rfl XB.out infoWy15 rfl (by simp [Value.oneCell']) ?_
       have tb := below_setRow HB.out PLB.out #[.slice E0 e0 f0, .slice E1 e1 f1, .slice E2 e2 f2, .int .i64 nr]
       have t6 := setRow_heap _ _ _ #[.slice E0 e0 f0, .slice E1 e1 f1, .slice E2 e2 f2, .int .i64 nr] _ _ XB.out
       have tO : WyOwn (qB_.setRow p14 #[.slice E0 e0 f0, .slice E1 e1 f1, .slice E2 e2 f2, .int .i64 nr]) w4.heap.size (.slice E0 e0 f0) (.slice E1 e1 f1) (.slice E2 e2 f2) x := way_off15 OU.out (grownBy_setRow qB_ p14 #[.slice E0 e0 f0, .slice E1 e1 f1, .slice E2 e2 f2, .int .i64 nr]) XB.out (by decide) (by decide)
       refine hK.out _ _ ?_ fun hHeld => ?_;exact tb;clear hK K;try simp only [zn, Act.put]
       generalize qB_.setRow p14 #[.slice E0 e0 f0, .slice E1 e1 f1, .slice E2 e2 f2, .int .i64 nr] = qC_ at tb t6 tO hHeld ⊢
       refine tk 13 hHeld ?_
       refine wpAnyH_done (by kernel_rfl) ?_ _
       go_wp2_with fail
       go_meet
       exact ⟨p14, E0, f0, E1, f1, E2, f2, rfl, rfl, t6, tO, tb⟩
      ·go_simp
       have tb := HB.out.alloc HB.out.size (.cells #[.slice none 0 0, .slice none 0 0, .slice none 0 0, .int .i64 0] 53)
       have t6 := heap_alloc_self q0_ (.cells #[.slice none 0 0, .slice none 0 0, .slice none 0 0, .int .i64 0] 53)
       refine hK.out _ _ ?_ fun hHeld => ?_;exact tb;clear hK K;try simp only [zn, Act.put]
       generalize q0_.alloc (.cells #[.slice none 0 0, .slice none 0 0, .slice none 0 0, .int .i64 0] 53) = qA_ at tb t6 hHeld ⊢
       obtain ⟨p14, hp⟩ : ∃ n, n = q0_.heap.size := ⟨_, rfl⟩
       rw [← hp] at t6 ⊢
       have PLB : Hid (w4.heap.size ≤ p14) := Lib.hid (by rw [hp]; exact HB.out.size)
       clear HB hp
       have HB := Lib.hid tb
       have XA_ := Lib.hid t6
       clear tb t6
       refine tkr 7 (fun K hK => ?_)
       go_simp
       refine (hw.of _ p id qA_ (PV.out qA_ (BQ.out.trans (HB.out.mono BQ.out.size)))).mono ?_
       rintro e qB_ ⟨u0, u1, u2, rfl, hu_, b⟩
       rw [HW.out.2] at hu_
       rw [HW.out.1, HW.out.2]
       obtain ⟨E0, f0, rfl⟩ := hu_.path.slice
       obtain ⟨E1, f1, rfl⟩ := hu_.over.slice
       obtain ⟨E2, f2, rfl⟩ := hu_.asks.slice
       have hu0 := hu_.mono HB.out.size
       clear hu_
       rw [← HZ.out.1, ← HZ.out.2.1, ← HZ.out.2.2.1] at hu0
       rw [← HZ.out.1, ← HZ.out.2.1, ← HZ.out.2.2.1, ← HZ.out.2.2.2]
       have HB' := Lib.hid (HB.out.trans (b.mono HB.out.size))
       have OU : Hid (WyOwn qB_ w4.heap.size (.slice E0 e0 f0) (.slice E1 e1 f1) (.slice E2 e2 f2) x) := Lib.hid hu0
       clear hu0
       have XB := Lib.hid ((b.block _ (heap_lt XA_.out)).trans XA_.out)
       clear HB XA_
       have HB := HB'
       clear HB' b
       try go_wp2_with fail
       refine hK.out _ _ ?_ fun hHeld => ?_;exact HB.out;clear hK K;try simp only [zn, Act.put]
       refine tk 8 hHeld ?_;refine tk 9 hHeld ?_;refine tk 10 hHeld ?_
       refine tkr 12 (fun K hK => ?_)
       rw [if_pos (by rfl)]
       refine wp_store_rowS 53 (.tmp 14) (.tmp 116) rfl p14 rfl (c' := #[.slice E0 e0 f0, .slice E1 e1 f1, .slice E2 e2 f2, .int .i64 nr]) rfl XB.out infoWy15 rfl (by simp [Value.oneCell']) ?_
       have tb := below_setRow HB.out PLB.out #[.slice E0 e0 f0, .slice E1 e1 f1, .slice E2 e2 f2, .int .i64 nr]
       have t6 := setRow_heap _ _ _ #[.slice E0 e0 f0, .slice E1 e1 f1, .slice E2 e2 f2, .int .i64 nr] _ _ XB.out
       have tO : WyOwn (qB_.setRow p14 #[.slice E0 e0 f0, .slice E1 e1 f1, .slice E2 e2 f2, .int .i64 nr]) w4.heap.size (.slice E0 e0 f0) (.slice E1 e1 f1) (.slice E2 e2 f2) x := way_off15 OU.out (grownBy_setRow qB_ p14 #[.slice E0 e0 f0, .slice E1 e1 f1, .slice E2 e2 f2, .int .i64 nr]) XB.out (by decide) (by decide)
       refine hK.out _ _ ?_ fun hHeld => ?_;exact tb;clear hK K;try simp only [zn, Act.put]
       generalize qB_.setRow p14 #[.slice E0 e0 f0, .slice E1 e1 f1, .slice E2 e2 f2, .int .i64 nr] = qC_ at tb t6 tO hHeld ⊢
       refine tk 13 hHeld ?_
       refine wpAnyH_done (by kernel_rfl) ?_ _
       go_wp2_with fail
       go_meet
       exact ⟨p14, E0, f0, E1, f1, E2, f2, rfl, rfl, t6, tO, tb⟩
     case rest =>
      obtain ⟨p14, E0, f0, E1, f1, E2, f2, rfl, rfl, hx14, hwo, hbv⟩ := hcut
      obtain ⟨w5, hv2⟩ : ∃ u, u = wc := ⟨_, rfl⟩
      subst hv2
      have SO5 := Lib.hid (SO.out.below hbv)
      have X14 := Lib.hid hx14
      have WO := Lib.hid hwo
      clear GE SO hx14 hwo
      replace X0 := Lib.hid ((hbv.block _ (heap_lt X0.out)).trans X0.out)
      replace X6 := Lib.hid ((hbv.block _ (heap_lt X6.out)).trans X6.out)
      replace BQ := Lib.hid (BQ.out.trans (hbv.mono BQ.out.size))
      clear hbv
      have SO := SO5
      clear SO5
      obtain ⟨j0, j1, j2, j3⟩ := cell4_of X14.out
      obtain ⟨l0, l1, l2⟩ := cell3_of X6.out
      have d0 : ((0 : Int) != 0) = false := by decide
      obtain ⟨bq, oq, ebq, -, -, hq1, -⟩ := SO.out.in_.lk.at HIS.out
      cases ebq
      obtain ⟨z24, hz24⟩ : ∃ z, z = (restS p).lk[i].2.1 := ⟨_, rfl⟩
      have g24 : w5.cell? ⟨bl, ol + i * 4 + 1, none⟩ = some (.int .u8 z24) := by rw [hz24]; exact hq1
      clear hz24 hq1
      obtain ⟨g, cg, eg, hlog, ⟨cur, hcur⟩, hset⟩ := st_setLk1c SO.out HIS.out (z := 1) (by decide)
      rw [rest_set HIS.out] at hset
      injection eg with eg1 eg2 eg3
      injection eg1 with eg1
      injection eg1 with eg1 eg4
      subst eg1
      subst eg4
      rw [Nat.zero_add] at g24
      have fz := frozen2_of hcur (i * 4 + 1)
      have HCUR := Lib.hid hcur
      have HLO := Lib.hid hlog
      have HN5 := Lib.hid hset
      clear hset eg2 eg3 hlog
      go_upto_region 25 with fail
      clear l0 l1 l2 j0 j1 j2 j3 d0 g24
      have t0 := far_cells15 (j := i * 4 + 1) (v := .int .u8 1) X0.out HCUR.out (by decide)
      have t6 := far_cells15 (j := i * 4 + 1) (v := .int .u8 1) X6.out HCUR.out (by decide)
      have t14 := far_cells15 (j := i * 4 + 1) (v := .int .u8 1) X14.out HCUR.out (by decide)
      have tW := way_off15 WO.out (grown_setK w5 bl (i * 4 + 1) (.int .u8 1)) HCUR.out (by decide) (by decide)
      have tB0 := below_set BQ.out (show w.heap.size ≤ bl by have := HLO.out; have := LO.out; omega) (i * 4 + 1) (.int .u8 1)
      have tB := tB0
      have tS := HN5.out
      generalize (w5.setCell ⟨bl, i * 4 + 1, none⟩ (.int .u8 1)) = w6 at t0 t6 t14 tW tB tS ⊢
      clear SO WO X0 X6 X14 BQ HN5 HCUR hcur fz tB0
      have SO := Lib.hid tS
      have WO := Lib.hid tW
      have X0 := Lib.hid t0
      have X6 := Lib.hid t6
      have X14 := Lib.hid t14
      have BQ := Lib.hid tB
      clear tS tW t0 t6 t14 tB
      obtain ⟨j0, j1, j2, j3⟩ := cell4_of X14.out
      obtain ⟨l0, l1, l2⟩ := cell3_of X6.out
      have he2b : e2 ≤ 9223372036854775807 := by
       obtain ⟨A', c', e, h1, h2, -⟩ := WO.out.in_.asks
       cases e
       have := HE2.out
       unfold maxLen at h2
       omega
      by_cases hz : 0 < e2
      ·have hz' : (e2 : Int) > 0 := by omega
       have HB8 : Hid (staE p (setS p i fun _ => 0) = 8) := Lib.hid (staE_bad HSD.out (set_bad HSD.out HIR.out (by
        intro h
        have h2 := HE2.out
        have h3 : x.asks = [] := by rw [HX.out]; exact h
        rw [h3] at h2
        simp at h2
        omega)))
       obtain ⟨k0, k1, k2, k3, k4, k5⟩ := cell6_of X0.out
       go_wp2_with fail
       refine (hc.check _ _ p (setS p i fun _ => 0) w6 (PV.out w6 BQ.out) ⟨_, _, _, rfl, SO.out.in_⟩).mono ?_
       rintro e w7 ⟨rfl, b⟩
       rw [HB8.out]
       clear k0 k1 k2 k3 k4 k5 l0 l1 l2 j0 j1 j2 j3
       have tS := SO.out.below b
       have tW := WO.out.below b
       have t0 := (b.block _ (heap_lt X0.out)).trans X0.out
       have t6 := (b.block _ (heap_lt X6.out)).trans X6.out
       have t14 := (b.block _ (heap_lt X14.out)).trans X14.out
       have tB := BQ.out.trans (b.mono BQ.out.size)
       clear SO WO X0 X6 X14 BQ
       have SO := Lib.hid tS
       have WO := Lib.hid tW
       have X0 := Lib.hid t0
       have X6 := Lib.hid t6
       have X14 := Lib.hid t14
       have BQ := Lib.hid tB
       clear tS tW t0 t6 t14 tB
       clear b
       obtain ⟨j0, j1, j2, j3⟩ := cell4_of X14.out
       obtain ⟨l0, l1, l2⟩ := cell3_of X6.out
       go_upto_region 28 with fail
       clear j0 j1 j2 j3 l0 l1 l2
       have SO' : Hid (StOwn w7 w1.heap.size (.slice T0 n0 x0) (.slice T1 n1 x1) (.slice (some ⟨bl, 0, none⟩) n2 x2) (setS p i (callF (x.asks.take 0)))) := Lib.hid (by rw [List.take_zero, callF_nil]; exact SO.out)
       clear SO
       have SO := SO'
       clear SO'
       go_loopw [16, 17] (fun s16 s17 wr => ∃ k : Nat, k ≤ e2 ∧ s16 = .int .i64 k ∧ StOwn wr w1.heap.size (.slice T0 n0 x0) (.slice T1 n1 x1) (.slice (some ⟨bl, 0, none⟩) n2 x2) (setS p i (callF (x.asks.take k))) ∧ wr.heap[w.heap.size]? = some (.cells #[.int .i64 p.ver, .int .i64 p.par, .slice A2 b2 a2, .slice A3 b3 a3, .slice A4 b4 a4, .slice A5 b5 a5] 35 (0, 0)) ∧ wr.heap[p6]? = some (.cells #[.slice T0 n0 x0, .slice T1 n1 x1, .slice (some ⟨bl, 0, none⟩) n2 x2] 26 (0, 0)) ∧ wr.heap[p14]? = some (.cells #[.slice E0 e0 f0, .slice E1 e1 f1, .slice E2 e2 f2, .int .i64 nr] 53 (0, 0)) ∧ WyOwn wr w4.heap.size (.slice E0 e0 f0) (.slice E1 e1 f1) (.slice E2 e2 f2) x ∧ Below w.heap.size w wr) (fun s16 _ _ => e2 - (intOf s16).toNat)
       case atStart => exact ⟨0, by omega, by go_num, SO.out, X0.out, X6.out, X14.out, WO.out, BQ.out⟩
       case round =>
        clear SO X0 X6 X14 WO BQ
        obtain ⟨wx, hwx⟩ : ∃ z, z = wr := ⟨_, rfl⟩
        subst hwx
        obtain ⟨k, hk, rfl, hso, hx0, hx6, hx14, hwo, hbq⟩ := hrel
        have SO := Lib.hid hso
        have X0 := Lib.hid hx0
        have X6 := Lib.hid hx6
        have X14 := Lib.hid hx14
        have WO := Lib.hid hwo
        have BQ := Lib.hid hbq
        clear hso hx0 hx6 hx14 hwo hbq
        obtain ⟨j0, j1, j2, j3⟩ := cell4_of X14.out
        by_cases hlk : k < e2
        ·have hlk' : (k : Int) < e2 := by omega
         go_upto_region 31 with fail
         go_loopw [17] (fun s17 wr => ∃ j : Nat, j ≤ n1 ∧ s17 = .int .i64 j ∧ StOwn wr w1.heap.size (.slice T0 n0 x0) (.slice T1 n1 x1) (.slice (some ⟨bl, 0, none⟩) n2 x2) ⟨(setS p i fun _ => 0).tr, mixT (swF p (callF (x.asks.take k))) (swF p (callF (x.asks.take (k + 1)))) j, (setS p i fun _ => 0).lk⟩ ∧ wr.heap[w.heap.size]? = some (.cells #[.int .i64 p.ver, .int .i64 p.par, .slice A2 b2 a2, .slice A3 b3 a3, .slice A4 b4 a4, .slice A5 b5 a5] 35 (0, 0)) ∧ wr.heap[p6]? = some (.cells #[.slice T0 n0 x0, .slice T1 n1 x1, .slice (some ⟨bl, 0, none⟩) n2 x2] 26 (0, 0)) ∧ wr.heap[p14]? = some (.cells #[.slice E0 e0 f0, .slice E1 e1 f1, .slice E2 e2 f2, .int .i64 nr] 53 (0, 0)) ∧ WyOwn wr w4.heap.size (.slice E0 e0 f0) (.slice E1 e1 f1) (.slice E2 e2 f2) x ∧ Below w.heap.size w wr) (fun s17 _ => n1 - (intOf s17).toNat)
         case atStart => exact ⟨0, by omega, by go_num, by rw [mixT_zero]; exact SO.out, X0.out, X6.out, X14.out, WO.out, BQ.out⟩
         case round =>
          clear SO X0 X6 X14 WO BQ j0 j1 j2 j3
          obtain ⟨wz, hwz⟩ : ∃ z, z = wr := ⟨_, rfl⟩
          subst hwz
          obtain ⟨j, hj, rfl, hso, hx0, hx6, hx14, hwo, hbq⟩ := hrel
          have SO := Lib.hid hso
          have X0 := Lib.hid hx0
          have X6 := Lib.hid hx6
          have X14 := Lib.hid hx14
          have WO := Lib.hid hwo
          have BQ := Lib.hid hbq
          clear hso hx0 hx6 hx14 hwo hbq
          obtain ⟨l0, l1, l2⟩ := cell3_of X6.out
          by_cases hlj : j < n1
          ·have hlj' : (j : Int) < n1 := by omega
           have hjp : j < p.pts.length := by have := HN.out; have := restS_len p; omega
           have hjs : j < (swF p (callF (x.asks.take (k + 1)))).length := by simpa [swF] using hjp
           have hjm : j < (mixT (swF p (callF (x.asks.take k))) (swF p (callF (x.asks.take (k + 1)))) j).length := by rw [mixT_len (swF_len p _ _) (by omega)]; exact hjs
           have hkr : k < x.asks.length := by have := HE2.out; omega
           obtain ⟨bw, ow, ebw, hbw, hc0, hc1, hc2⟩ := SO.out.in_.sw.at hjm
           obtain ⟨ba, oa, eba, hba, ha0, ha1, ha2⟩ := WO.out.in_.asks.at hkr
           obtain ⟨y0, hy0⟩ : ∃ z, z = p.pts[j].1 := ⟨_, rfl⟩
           obtain ⟨a0_, h0_⟩ : ∃ z, z = x.asks[k].1 := ⟨_, rfl⟩
           obtain ⟨a1_, h1_⟩ : ∃ z, z = x.asks[k].2.1 := ⟨_, rfl⟩
           have hmx : (mixT (swF p (callF (x.asks.take k))) (swF p (callF (x.asks.take (k + 1)))) j)[j] = (y0, 0, callF (x.asks.take k) y0) := by rw [mixT_at (swF_len p _ _) hjs, swF_at, hy0]
           rw [hmx] at hc0 hc2
           rw [← h0_] at ha0
           rw [← h1_] at ha1
           have HY : Hid (p.pts[j].1 = y0 ∧ x.asks[k].1 = a0_ ∧ x.asks[k].2.1 = a1_) := Lib.hid ⟨hy0.symm, h0_.symm, h1_.symm⟩
           have HMX := Lib.hid hmx
           have G5 : Hid (wz.cell? ⟨bw, ow + j * 3, none⟩ = some (.int .i64 y0)) := Lib.hid (by simpa using hc0)
           have G8 : Hid (wz.cell? ⟨bw, ow + j * 3 + 2, none⟩ = some (.int .i64 (callF (x.asks.take k) y0))) := Lib.hid (by simpa using hc2)
           have G6 : Hid (wz.cell? ⟨ba, oa + k * 3, none⟩ = some (.int .i64 a0_)) := Lib.hid (by simpa using ha0)
           have G7 : Hid (wz.cell? ⟨ba, oa + k * 3 + 1, none⟩ = some (.int .i64 a1_)) := Lib.hid (by simpa using ha1)
           have BD : Hid (∀ nq, Below wz.heap.size wz (wz.drewN nq)) := Lib.hid (fun nq => ⟨rfl, rfl, rfl, Nat.le_refl _, fun _ _ => rfl⟩)
           subst ebw
           subst eba
           have g5 := G5.out
           have g6 := G6.out
           clear hc0 hc1 hc2 ha0 ha1 ha2 hba hbw hy0 h0_ h1_ hmx
           obtain ⟨j0, j1, j2, j3⟩ := cell4_of X14.out
           go_upto_region 33 with fail
           by_cases he : y0 = a0_
           ·have he' : (y0 == a0_) = true := by simpa using he
            have HFS : Hid ((mixT (swF p (callF (x.asks.take k))) (swF p (callF (x.asks.take (k + 1)))) j).set j ((mixT (swF p (callF (x.asks.take k))) (swF p (callF (x.asks.take (k + 1)))) j)[j].1, (mixT (swF p (callF (x.asks.take k))) (swF p (callF (x.asks.take (k + 1)))) j)[j].2.1, a1_) = mixT (swF p (callF (x.asks.take k))) (swF p (callF (x.asks.take (k + 1)))) (j + 1)) := Lib.hid (by
             rw [← mixT_set (swF_len p _ _) hjs, HMX.out, swF_at, HY.out.1, callF_take hkr, HY.out.2.1, HY.out.2.2, if_pos he])
            clear he
            go_quiet (fail)
            have hdb := BD.out nq
            generalize wz.drewN nq = wq at hdb ⊢
            have g7 := (hdb.cell (cell_lt G7.out)).trans G7.out
            have g8 := (hdb.cell (cell_lt G8.out)).trans G8.out
            clear g5 g6 G5 G6 G7 G8 BD l0 l1 l2 j0 j1 j2 j3
            have tS := SO.out.below hdb
            have tW := WO.out.below hdb
            have t0 := (hdb.block _ (heap_lt X0.out)).trans X0.out
            have t6 := (hdb.block _ (heap_lt X6.out)).trans X6.out
            have t14 := (hdb.block _ (heap_lt X14.out)).trans X14.out
            have tB := BQ.out.trans (hdb.mono BQ.out.size)
            clear SO WO X0 X6 X14 BQ
            have SO := Lib.hid tS
            have WO := Lib.hid tW
            have X0 := Lib.hid t0
            have X6 := Lib.hid t6
            have X14 := Lib.hid t14
            have BQ := Lib.hid tB
            clear tS tW t0 t6 t14 tB
            clear hdb
            obtain ⟨g, cg, eg, hlog, ⟨cur, hcur⟩, hset⟩ := st_setSw2c SO.out hjm a1_
            rw [HFS.out] at hset
            injection eg with e1 e2 e3
            injection e1 with e1
            injection e1 with e1 e4
            subst e1
            subst e4
            rw [Nat.zero_add] at g8
            have fz := frozen2_of hcur (j * 3 + 2)
            have HCUR := Lib.hid hcur
            have HLO := Lib.hid hlog
            have HN5 := Lib.hid hset
            clear hset e2 e3 hlog HFS
            obtain ⟨l0, l1, l2⟩ := cell3_of X6.out
            obtain ⟨j0, j1, j2, j3⟩ := cell4_of X14.out
            go_upto_region 34 with fail
            go_region
            clear l0 l1 l2 j0 j1 j2 j3 g7 g8
            have hd := (Below.refl (wq.setCell ⟨bw, j * 3 + 2, none⟩ (.int .i64 a1_)).heap.size (wq.setCell ⟨bw, j * 3 + 2, none⟩ (.int .i64 a1_))).drew
            have t0 := (hd.block _ (heap_lt (far_cells15 (j := j * 3 + 2) (v := .int .i64 a1_) X0.out HCUR.out (by decide)))).trans (far_cells15 (j := j * 3 + 2) (v := .int .i64 a1_) X0.out HCUR.out (by decide))
            have t6 := (hd.block _ (heap_lt (far_cells15 (j := j * 3 + 2) (v := .int .i64 a1_) X6.out HCUR.out (by decide)))).trans (far_cells15 (j := j * 3 + 2) (v := .int .i64 a1_) X6.out HCUR.out (by decide))
            have t14 := (hd.block _ (heap_lt (far_cells15 (j := j * 3 + 2) (v := .int .i64 a1_) X14.out HCUR.out (by decide)))).trans (far_cells15 (j := j * 3 + 2) (v := .int .i64 a1_) X14.out HCUR.out (by decide))
            have tW := (way_off15 WO.out (grown_setK wq bw (j * 3 + 2) (.int .i64 a1_)) HCUR.out (by decide) (by decide)).below hd
            have tB0 := below_set BQ.out (show w.heap.size ≤ bw by have := HLO.out; have := LO.out; omega) (j * 3 + 2) (.int .i64 a1_)
            have tB := tB0.trans (hd.mono tB0.size)
            have tS := HN5.out.below hd
            generalize ((wq.setCell ⟨bw, j * 3 + 2, none⟩ (.int .i64 a1_))).drew = wy at hd t0 t6 t14 tW tB tS ⊢
            clear SO WO X0 X6 X14 BQ HN5 HCUR hcur fz tB0 hd
            have SO := Lib.hid tS
            have WO := Lib.hid tW
            have X0 := Lib.hid t0
            have X6 := Lib.hid t6
            have X14 := Lib.hid t14
            have BQ := Lib.hid tB
            clear tS tW t0 t6 t14 tB
            go_wp2_with fail
            go_roundw
            case measure => simp [intOf]; omega
            case rel => exact ⟨j + 1, by omega, by go_num, SO.out, X0.out, X6.out, X14.out, WO.out, BQ.out⟩
           ·have he' : (y0 == a0_) = false := by simpa using he
            have HFS : Hid (mixT (swF p (callF (x.asks.take k))) (swF p (callF (x.asks.take (k + 1)))) (j + 1) = mixT (swF p (callF (x.asks.take k))) (swF p (callF (x.asks.take (k + 1)))) j) := Lib.hid (by
             refine mixT_skip (swF_len p _ _) hjs ?_
             rw [swF_at, swF_at, HY.out.1, callF_take hkr, HY.out.2.1, if_neg he])
            clear he
            go_quiet (fail)
            have hdb := BD.out nq
            generalize wz.drewN nq = wq at hdb ⊢
            clear g5 g6 G5 G6 G7 G8 BD l0 l1 l2 j0 j1 j2 j3
            have tS := SO.out.below hdb
            have tW := WO.out.below hdb
            have t0 := (hdb.block _ (heap_lt X0.out)).trans X0.out
            have t6 := (hdb.block _ (heap_lt X6.out)).trans X6.out
            have t14 := (hdb.block _ (heap_lt X14.out)).trans X14.out
            have tB := BQ.out.trans (hdb.mono BQ.out.size)
            clear SO WO X0 X6 X14 BQ
            have SO := Lib.hid tS
            have WO := Lib.hid tW
            have X0 := Lib.hid t0
            have X6 := Lib.hid t6
            have X14 := Lib.hid t14
            have BQ := Lib.hid tB
            clear tS tW t0 t6 t14 tB
            clear hdb
            have SO' : Hid (StOwn wq w1.heap.size (.slice T0 n0 x0) (.slice (some ⟨bw, ow, none⟩) n1 x1) (.slice (some ⟨bl, 0, none⟩) n2 x2) ⟨(setS p i fun _ => 0).tr, mixT (swF p (callF (x.asks.take k))) (swF p (callF (x.asks.take (k + 1)))) (j + 1), (setS p i fun _ => 0).lk⟩) := Lib.hid (by rw [HFS.out]; exact SO.out)
            go_wp2_with fail
            go_roundw
            case measure => simp [intOf]; omega
            case rel => exact ⟨j + 1, by omega, by go_num, SO'.out, X0.out, X6.out, X14.out, WO.out, BQ.out⟩
          ·obtain rfl : n1 = j := by omega
           have hlj' : ¬ (n1 : Int) < n1 := by omega
           have SO' : Hid (StOwn wz w1.heap.size (.slice T0 n0 x0) (.slice T1 n1 x1) (.slice (some ⟨bl, 0, none⟩) n2 x2) (setS p i (callF (x.asks.take (k + 1))))) := Lib.hid (by
            have h := SO.out
            rw [mixT_all (swF_len p _ _) (show n1 = (swF p (callF (x.asks.take (k + 1)))).length by have := HN.out; have := restS_len p; simp only [swF, List.length_map]; omega)] at h
            rw [setS_sw]; exact h)
           go_wp2_with fail
           go_roundw
           case measure => simp [intOf]; omega
           case rel => exact ⟨k + 1, by omega, by go_num, SO'.out, X0.out, X6.out, X14.out, WO.out, BQ.out⟩
        ·obtain rfl : e2 = k := by omega
         have hlk' : ¬ (e2 : Int) < e2 := by omega
         have HF : Hid (StMay p (setS p i (callF (x.asks.take e2)))) := Lib.hid (by
          rw [HE2.out, List.take_length]
          have hak : ∀ a ∈ x.asks, 1 ≤ a.2.1 ∧ a.2.1 ≤ 2 := fun a ha => (ask_in (routeIn_of HSD.out.may HIR.out rfl) (HSD.out.each i HIR.out).hangs (by have h := ha; rw [HX.out] at h; exact h)).2
          refine set_may HSD.out HIR.out (fun pt => ?_) (fun a ha => callF_once (by rw [HX.out]; exact (HSD.out.each i HIR.out).once) a (by rw [HX.out]; exact ha))
          have h := callF_in hak x.asks.length pt (Nat.le_refl _)
          rwa [List.take_length] at h)
         have HL3 : Hid ((setS p i (callF (x.asks.take e2))).lk.length = n2 ∧ FewS (setS p i (callF (x.asks.take e2)))) := Lib.hid (by
          have h1 := set_len p i (callF (x.asks.take e2))
          have h2 := HBN.out
          have h3 := HBL.out
          unfold FewS
          omega)
         obtain ⟨st, hst⟩ : ∃ z, z = setS p i (callF (x.asks.take e2)) := ⟨_, rfl⟩
         rw [← hst] at HF HL3 SO
         clear hst
         go_upto_region 35 with fail
         clear j0 j1 j2 j3
         obtain ⟨l0, l1, l2⟩ := cell3_of X6.out
         go_wp2_with fail
         refine (hc.twin _ st wx ⟨_, _, _, rfl, SO.out.in_⟩ HL3.out.2).mono ?_
         rintro e wt ⟨u0, u1, u2, rfl, ht, b⟩
         clear l0 l1 l2
         have tS := SO.out.below b
         have tW := WO.out.below b
         have t0 := (b.block _ (heap_lt X0.out)).trans X0.out
         have t6 := (b.block _ (heap_lt X6.out)).trans X6.out
         have t14 := (b.block _ (heap_lt X14.out)).trans X14.out
         have tB := BQ.out.trans (b.mono BQ.out.size)
         clear SO WO X0 X6 X14 BQ
         have SO := Lib.hid tS
         have WO := Lib.hid tW
         have X0 := Lib.hid t0
         have X6 := Lib.hid t6
         have X14 := Lib.hid t14
         have BQ := Lib.hid tB
         clear tS tW t0 t6 t14 tB
         clear b
         obtain ⟨U0, y0, rfl⟩ := ht.tr.slice
         obtain ⟨U1, y1, rfl⟩ := ht.sw.slice
         obtain ⟨U2, y2, rfl⟩ := ht.lk.slice
         obtain ⟨m0, hm0⟩ : ∃ n, n = st.tr.length := ⟨_, rfl⟩
         obtain ⟨m1, hm1⟩ : ∃ n, n = st.sw.length := ⟨_, rfl⟩
         obtain ⟨m2, hm2_⟩ : ∃ n, n = st.lk.length := ⟨_, rfl⟩
         rw [← hm0, ← hm1, ← hm2_] at ht
         rw [← hm0, ← hm1, ← hm2_]
         have HM2 : Hid (m2 = st.lk.length ∧ 1 ≤ m2 ∧ m2 ≤ 16) := Lib.hid ⟨hm2_, by have := HL3.out.1; omega, by have := HL3.out.1; have := HBN.out; omega⟩
         clear hm0 hm1 hm2_
         go_upto_region 36 with ((with_reducible show wpList _ _ _ (⟨none, .store _ _ _, _, _, _, _⟩ :: _) _ _); refine wpList_store_rowS rfl _ (.tmp 18) (.tmp 174) rfl wt.heap.size rfl (c' := #[.slice U0 m0 y0, .slice U1 m1 y1, .slice U2 m2 y2]) rfl (heap_alloc_self wt (.cells #[.slice none 0 0, .slice none 0 0, .slice none 0 0] 26)) infoSt15 rfl (by simp [Value.oneCell']) ?_)
         rw [World.setRow_alloc_new]
         have hx1 := heap_alloc_self wt (.cells #[.slice U0 m0 y0, .slice U1 m1 y1, .slice U2 m2 y2] 26)
         have b := below_new wt (.cells #[.slice U0 m0 y0, .slice U1 m1 y1, .slice U2 m2 y2] 26)
         have hT := ht.below b
         generalize wt.alloc (.cells #[.slice U0 m0 y0, .slice U1 m1 y1, .slice U2 m2 y2] 26) = wu at b hx1 hT ⊢
         obtain ⟨pt, hpt⟩ : ∃ n, n = wt.heap.size := ⟨_, rfl⟩
         rw [← hpt] at hx1 ⊢
         have PT : Hid (w.heap.size ≤ pt) := Lib.hid (by rw [hpt]; exact BQ.out.size)
         have PN : Hid (p6 ≠ pt) := Lib.hid (by have := heap_lt X6.out; omega)
         have tS := SO.out.below b
         have tW := WO.out.below b
         have t0 := (b.block _ (heap_lt X0.out)).trans X0.out
         have t6 := (b.block _ (heap_lt X6.out)).trans X6.out
         have t14 := (b.block _ (heap_lt X14.out)).trans X14.out
         have tB := BQ.out.trans (b.mono BQ.out.size)
         clear SO WO X0 X6 X14 BQ
         have SO := Lib.hid tS
         have WO := Lib.hid tW
         have X0 := Lib.hid t0
         have X6 := Lib.hid t6
         have X14 := Lib.hid t14
         have BQ := Lib.hid tB
         clear tS tW t0 t6 t14 tB
         clear b hpt ht
         have TO := Lib.hid hT
         have X18 := Lib.hid hx1
         clear hT hx1
         have hcap : m2 ≤ y2 := by
          obtain ⟨A', c', e, h1, h2, -⟩ := TO.out.in_.lk
          cases e
          have := HM2.out
          omega
         obtain ⟨m3, hm3_⟩ : ∃ n : Nat, (n : Int) = (m2 : Int) - 1 := ⟨m2 - 1, by have := HM2.out; omega⟩
         have hwr : IntKind.i64.wrap ((m2 : Int) - 1) = (m3 : Int) := by rw [wrap_id (by have := HM2.out; omega) (by have := HM2.out; omega), hm3_]
         have hmc : m3 ≤ y2 := by omega
         have HM3 : Hid (m3 + 1 = m2) := Lib.hid (by omega)
         have hmi : (m3 : Int) ≤ y2 := by omega
         have hm0i : (0 : Int) ≤ m3 := by omega
         clear hm3_ hcap
         have X18' := X18.out
         obtain ⟨l0, l1, l2⟩ := cell3_of X18.out
         have fz := frozen2_of X18' 2
         go_upto_region 37 with fail
         have hXY := heap_setK (k := 2) X18' (.slice U2 m3 y2)
         have hB2 := below_set BQ.out PT.out 2 (.slice U2 m3 y2)
         have hgk := grown_setK wu pt 2 (.slice U2 m3 y2)
         have hS2 : StOwn (wu.setCell ⟨pt, 2, none⟩ (.slice U2 m3 y2)) w1.heap.size (.slice T0 n0 x0) (.slice T1 n1 x1) (.slice (some ⟨bl, 0, none⟩) n2 x2) st := ⟨own_off15 trkF SO.out.tr hgk (by decide) ⟨_, X18'⟩, own_off15 sigF SO.out.sw hgk (by decide) ⟨_, X18'⟩, own_off15 lckF SO.out.lk hgk (by decide) ⟨_, X18'⟩⟩
         have hT2 : StOwn (wu.setCell ⟨pt, 2, none⟩ (.slice U2 m3 y2)) wx.heap.size (.slice U0 m0 y0) (.slice U1 m1 y1) (.slice U2 m2 y2) st := ⟨own_off15 trkF TO.out.tr hgk (by decide) ⟨_, X18'⟩, own_off15 sigF TO.out.sw hgk (by decide) ⟨_, X18'⟩, own_off15 lckF TO.out.lk hgk (by decide) ⟨_, X18'⟩⟩
         have h0c := far_cells15 (j := 2) (v := .slice U2 m3 y2) X0.out X18' (by decide)
         have h6c := (heap_setFar wu pt 2 p6 (.slice U2 m3 y2) PN.out).trans X6.out
         generalize wu.setCell ⟨pt, 2, none⟩ (.slice U2 m3 y2) = wv at hXY hB2 hgk hS2 hT2 h0c h6c ⊢
         clear fz l0 l1 l2 X18 X18' SO TO X0 X6 X14 WO BQ hgk hwr hmi hm0i hmc
         have X0 := Lib.hid h0c
         have X6 := Lib.hid h6c
         have BQ := Lib.hid hB2
         have SI := Lib.hid hS2.in_
         have TI : Hid (StIn wv wv.heap.size (.slice U0 m0 y0) (.slice U1 m1 y1) (.slice U2 m3 y2) ⟨st.tr, st.sw, st.lk.take m3⟩) := Lib.hid ⟨hT2.in_.tr, hT2.in_.sw, ListIn.take15 hT2.in_.lk (by have := HM2.out; have := HM3.out; omega)⟩
         have X18 : Hid (wv.heap[pt]? = some (.cells #[.slice U0 m0 y0, .slice U1 m1 y1, .slice U2 m3 y2] 26 (0, 0))) := Lib.hid hXY
         clear hXY hB2 hS2 hT2 h0c h6c
         obtain ⟨k0, k1, k2, k3, k4, k5⟩ := cell6_of X0.out
         obtain ⟨l0, l1, l2⟩ := cell3_of X6.out
         go_wp2_with fail
         refine (hc.check _ _ p st wv (PV.out wv BQ.out) ⟨_, _, _, rfl, SI.out⟩).mono ?_
         rintro e w8 ⟨rfl, b⟩
         rw [staE_yes HF.out]
         have t0 := (b.block _ (heap_lt X0.out)).trans X0.out
         have t18 := (b.block _ (heap_lt X18.out)).trans X18.out
         have tB := BQ.out.trans (b.mono BQ.out.size)
         have tT := (TI.out.below b).more b.size
         clear b k0 k1 k2 k3 k4 k5 l0 l1 l2 X0 X18 BQ TI SI X6
         have TI := Lib.hid tT
         have BQ := Lib.hid tB
         obtain ⟨k0, k1, k2, k3, k4, k5⟩ := cell6_of t0
         obtain ⟨l0, l1, l2⟩ := cell3_of t18
         clear t0 t18 tB tT
         go_wp2_with fail
         refine (hc.check _ _ p ⟨st.tr, st.sw, st.lk.take m3⟩ w8 (PV.out w8 BQ.out) ⟨_, _, _, rfl, TI.out⟩).mono ?_
         rintro e w9 ⟨rfl, b⟩
         rw [staE_bad HSD.out (fewer_bad HF.out (by rw [List.length_take]; have := HM2.out; have := HM3.out; omega))]
         have BF := Lib.hid (BQ.out.trans (b.mono BQ.out.size))
         clear b k0 k1 k2 k3 k4 k5 l0 l1 l2
         go_wp2_with fail
         go_ret
         exact ⟨rfl, BF.out⟩
      ·have hz' : decide ((e2 : Int) > 0) = false := decide_eq_false (by omega)
       go_upto_region 28 with fail
       clear j0 j1 j2 j3 l0 l1 l2
       have SO' : Hid (StOwn w6 w1.heap.size (.slice T0 n0 x0) (.slice T1 n1 x1) (.slice (some ⟨bl, 0, none⟩) n2 x2) (setS p i (callF (x.asks.take 0)))) := Lib.hid (by rw [List.take_zero, callF_nil]; exact SO.out)
       clear SO
       have SO := SO'
       clear SO'
       go_loopw [16, 17] (fun s16 s17 wr => ∃ k : Nat, k ≤ e2 ∧ s16 = .int .i64 k ∧ StOwn wr w1.heap.size (.slice T0 n0 x0) (.slice T1 n1 x1) (.slice (some ⟨bl, 0, none⟩) n2 x2) (setS p i (callF (x.asks.take k))) ∧ wr.heap[w.heap.size]? = some (.cells #[.int .i64 p.ver, .int .i64 p.par, .slice A2 b2 a2, .slice A3 b3 a3, .slice A4 b4 a4, .slice A5 b5 a5] 35 (0, 0)) ∧ wr.heap[p6]? = some (.cells #[.slice T0 n0 x0, .slice T1 n1 x1, .slice (some ⟨bl, 0, none⟩) n2 x2] 26 (0, 0)) ∧ wr.heap[p14]? = some (.cells #[.slice E0 e0 f0, .slice E1 e1 f1, .slice E2 e2 f2, .int .i64 nr] 53 (0, 0)) ∧ WyOwn wr w4.heap.size (.slice E0 e0 f0) (.slice E1 e1 f1) (.slice E2 e2 f2) x ∧ Below w.heap.size w wr) (fun s16 _ _ => e2 - (intOf s16).toNat)
       case atStart => exact ⟨0, by omega, by go_num, SO.out, X0.out, X6.out, X14.out, WO.out, BQ.out⟩
       case round =>
        clear SO X0 X6 X14 WO BQ
        obtain ⟨wx, hwx⟩ : ∃ z, z = wr := ⟨_, rfl⟩
        subst hwx
        obtain ⟨k, hk, rfl, hso, hx0, hx6, hx14, hwo, hbq⟩ := hrel
        have SO := Lib.hid hso
        have X0 := Lib.hid hx0
        have X6 := Lib.hid hx6
        have X14 := Lib.hid hx14
        have WO := Lib.hid hwo
        have BQ := Lib.hid hbq
        clear hso hx0 hx6 hx14 hwo hbq
        obtain ⟨j0, j1, j2, j3⟩ := cell4_of X14.out
        by_cases hlk : k < e2
        ·have hlk' : (k : Int) < e2 := by omega
         omega
        ·obtain rfl : e2 = k := by omega
         have hlk' : ¬ (e2 : Int) < e2 := by omega
         have HF : Hid (StMay p (setS p i (callF (x.asks.take e2)))) := Lib.hid (by
          rw [HE2.out, List.take_length]
          have hak : ∀ a ∈ x.asks, 1 ≤ a.2.1 ∧ a.2.1 ≤ 2 := fun a ha => (ask_in (routeIn_of HSD.out.may HIR.out rfl) (HSD.out.each i HIR.out).hangs (by have h := ha; rw [HX.out] at h; exact h)).2
          refine set_may HSD.out HIR.out (fun pt => ?_) (fun a ha => callF_once (by rw [HX.out]; exact (HSD.out.each i HIR.out).once) a (by rw [HX.out]; exact ha))
          have h := callF_in hak x.asks.length pt (Nat.le_refl _)
          rwa [List.take_length] at h)
         have HL3 : Hid ((setS p i (callF (x.asks.take e2))).lk.length = n2 ∧ FewS (setS p i (callF (x.asks.take e2)))) := Lib.hid (by
          have h1 := set_len p i (callF (x.asks.take e2))
          have h2 := HBN.out
          have h3 := HBL.out
          unfold FewS
          omega)
         obtain ⟨st, hst⟩ : ∃ z, z = setS p i (callF (x.asks.take e2)) := ⟨_, rfl⟩
         rw [← hst] at HF HL3 SO
         clear hst
         go_upto_region 35 with fail
         clear j0 j1 j2 j3
         obtain ⟨l0, l1, l2⟩ := cell3_of X6.out
         go_wp2_with fail
         refine (hc.twin _ st wx ⟨_, _, _, rfl, SO.out.in_⟩ HL3.out.2).mono ?_
         rintro e wt ⟨u0, u1, u2, rfl, ht, b⟩
         clear l0 l1 l2
         have tS := SO.out.below b
         have tW := WO.out.below b
         have t0 := (b.block _ (heap_lt X0.out)).trans X0.out
         have t6 := (b.block _ (heap_lt X6.out)).trans X6.out
         have t14 := (b.block _ (heap_lt X14.out)).trans X14.out
         have tB := BQ.out.trans (b.mono BQ.out.size)
         clear SO WO X0 X6 X14 BQ
         have SO := Lib.hid tS
         have WO := Lib.hid tW
         have X0 := Lib.hid t0
         have X6 := Lib.hid t6
         have X14 := Lib.hid t14
         have BQ := Lib.hid tB
         clear tS tW t0 t6 t14 tB
         clear b
         obtain ⟨U0, y0, rfl⟩ := ht.tr.slice
         obtain ⟨U1, y1, rfl⟩ := ht.sw.slice
         obtain ⟨U2, y2, rfl⟩ := ht.lk.slice
         obtain ⟨m0, hm0⟩ : ∃ n, n = st.tr.length := ⟨_, rfl⟩
         obtain ⟨m1, hm1⟩ : ∃ n, n = st.sw.length := ⟨_, rfl⟩
         obtain ⟨m2, hm2_⟩ : ∃ n, n = st.lk.length := ⟨_, rfl⟩
         rw [← hm0, ← hm1, ← hm2_] at ht
         rw [← hm0, ← hm1, ← hm2_]
         have HM2 : Hid (m2 = st.lk.length ∧ 1 ≤ m2 ∧ m2 ≤ 16) := Lib.hid ⟨hm2_, by have := HL3.out.1; omega, by have := HL3.out.1; have := HBN.out; omega⟩
         clear hm0 hm1 hm2_
         go_upto_region 36 with ((with_reducible show wpList _ _ _ (⟨none, .store _ _ _, _, _, _, _⟩ :: _) _ _); refine wpList_store_rowS rfl _ (.tmp 18) (.tmp 174) rfl wt.heap.size rfl (c' := #[.slice U0 m0 y0, .slice U1 m1 y1, .slice U2 m2 y2]) rfl (heap_alloc_self wt (.cells #[.slice none 0 0, .slice none 0 0, .slice none 0 0] 26)) infoSt15 rfl (by simp [Value.oneCell']) ?_)
         rw [World.setRow_alloc_new]
         have hx1 := heap_alloc_self wt (.cells #[.slice U0 m0 y0, .slice U1 m1 y1, .slice U2 m2 y2] 26)
         have b := below_new wt (.cells #[.slice U0 m0 y0, .slice U1 m1 y1, .slice U2 m2 y2] 26)
         have hT := ht.below b
         generalize wt.alloc (.cells #[.slice U0 m0 y0, .slice U1 m1 y1, .slice U2 m2 y2] 26) = wu at b hx1 hT ⊢
         obtain ⟨pt, hpt⟩ : ∃ n, n = wt.heap.size := ⟨_, rfl⟩
         rw [← hpt] at hx1 ⊢
         have PT : Hid (w.heap.size ≤ pt) := Lib.hid (by rw [hpt]; exact BQ.out.size)
         have PN : Hid (p6 ≠ pt) := Lib.hid (by have := heap_lt X6.out; omega)
         have tS := SO.out.below b
         have tW := WO.out.below b
         have t0 := (b.block _ (heap_lt X0.out)).trans X0.out
         have t6 := (b.block _ (heap_lt X6.out)).trans X6.out
         have t14 := (b.block _ (heap_lt X14.out)).trans X14.out
         have tB := BQ.out.trans (b.mono BQ.out.size)
         clear SO WO X0 X6 X14 BQ
         have SO := Lib.hid tS
         have WO := Lib.hid tW
         have X0 := Lib.hid t0
         have X6 := Lib.hid t6
         have X14 := Lib.hid t14
         have BQ := Lib.hid tB
         clear tS tW t0 t6 t14 tB
         clear b hpt ht
         have TO := Lib.hid hT
         have X18 := Lib.hid hx1
         clear hT hx1
         have hcap : m2 ≤ y2 := by
          obtain ⟨A', c', e, h1, h2, -⟩ := TO.out.in_.lk
          cases e
          have := HM2.out
          omega
         obtain ⟨m3, hm3_⟩ : ∃ n : Nat, (n : Int) = (m2 : Int) - 1 := ⟨m2 - 1, by have := HM2.out; omega⟩
         have hwr : IntKind.i64.wrap ((m2 : Int) - 1) = (m3 : Int) := by rw [wrap_id (by have := HM2.out; omega) (by have := HM2.out; omega), hm3_]
         have hmc : m3 ≤ y2 := by omega
         have HM3 : Hid (m3 + 1 = m2) := Lib.hid (by omega)
         have hmi : (m3 : Int) ≤ y2 := by omega
         have hm0i : (0 : Int) ≤ m3 := by omega
         clear hm3_ hcap
         have X18' := X18.out
         obtain ⟨l0, l1, l2⟩ := cell3_of X18.out
         have fz := frozen2_of X18' 2
         go_upto_region 37 with fail
         have hXY := heap_setK (k := 2) X18' (.slice U2 m3 y2)
         have hB2 := below_set BQ.out PT.out 2 (.slice U2 m3 y2)
         have hgk := grown_setK wu pt 2 (.slice U2 m3 y2)
         have hS2 : StOwn (wu.setCell ⟨pt, 2, none⟩ (.slice U2 m3 y2)) w1.heap.size (.slice T0 n0 x0) (.slice T1 n1 x1) (.slice (some ⟨bl, 0, none⟩) n2 x2) st := ⟨own_off15 trkF SO.out.tr hgk (by decide) ⟨_, X18'⟩, own_off15 sigF SO.out.sw hgk (by decide) ⟨_, X18'⟩, own_off15 lckF SO.out.lk hgk (by decide) ⟨_, X18'⟩⟩
         have hT2 : StOwn (wu.setCell ⟨pt, 2, none⟩ (.slice U2 m3 y2)) wx.heap.size (.slice U0 m0 y0) (.slice U1 m1 y1) (.slice U2 m2 y2) st := ⟨own_off15 trkF TO.out.tr hgk (by decide) ⟨_, X18'⟩, own_off15 sigF TO.out.sw hgk (by decide) ⟨_, X18'⟩, own_off15 lckF TO.out.lk hgk (by decide) ⟨_, X18'⟩⟩
         have h0c := far_cells15 (j := 2) (v := .slice U2 m3 y2) X0.out X18' (by decide)
         have h6c := (heap_setFar wu pt 2 p6 (.slice U2 m3 y2) PN.out).trans X6.out
         generalize wu.setCell ⟨pt, 2, none⟩ (.slice U2 m3 y2) = wv at hXY hB2 hgk hS2 hT2 h0c h6c ⊢
         clear fz l0 l1 l2 X18 X18' SO TO X0 X6 X14 WO BQ hgk hwr hmi hm0i hmc
         have X0 := Lib.hid h0c
         have X6 := Lib.hid h6c
         have BQ := Lib.hid hB2
         have SI := Lib.hid hS2.in_
         have TI : Hid (StIn wv wv.heap.size (.slice U0 m0 y0) (.slice U1 m1 y1) (.slice U2 m3 y2) ⟨st.tr, st.sw, st.lk.take m3⟩) := Lib.hid ⟨hT2.in_.tr, hT2.in_.sw, ListIn.take15 hT2.in_.lk (by have := HM2.out; have := HM3.out; omega)⟩
         have X18 : Hid (wv.heap[pt]? = some (.cells #[.slice U0 m0 y0, .slice U1 m1 y1, .slice U2 m3 y2] 26 (0, 0))) := Lib.hid hXY
         clear hXY hB2 hS2 hT2 h0c h6c
         obtain ⟨k0, k1, k2, k3, k4, k5⟩ := cell6_of X0.out
         obtain ⟨l0, l1, l2⟩ := cell3_of X6.out
         go_wp2_with fail
         refine (hc.check _ _ p st wv (PV.out wv BQ.out) ⟨_, _, _, rfl, SI.out⟩).mono ?_
         rintro e w8 ⟨rfl, b⟩
         rw [staE_yes HF.out]
         have t0 := (b.block _ (heap_lt X0.out)).trans X0.out
         have t18 := (b.block _ (heap_lt X18.out)).trans X18.out
         have tB := BQ.out.trans (b.mono BQ.out.size)
         have tT := (TI.out.below b).more b.size
         clear b k0 k1 k2 k3 k4 k5 l0 l1 l2 X0 X18 BQ TI SI X6
         have TI := Lib.hid tT
         have BQ := Lib.hid tB
         obtain ⟨k0, k1, k2, k3, k4, k5⟩ := cell6_of t0
         obtain ⟨l0, l1, l2⟩ := cell3_of t18
         clear t0 t18 tB tT
         go_wp2_with fail
         refine (hc.check _ _ p ⟨st.tr, st.sw, st.lk.take m3⟩ w8 (PV.out w8 BQ.out) ⟨_, _, _, rfl, TI.out⟩).mono ?_
         rintro e w9 ⟨rfl, b⟩
         rw [staE_bad HSD.out (fewer_bad HF.out (by rw [List.length_take]; have := HM2.out; have := HM3.out; omega))]
         have BF := Lib.hid (BQ.out.trans (b.mono BQ.out.size))
         clear b k0 k1 k2 k3 k4 k5 l0 l1 l2
         go_wp2_with fail
         go_ret
         exact ⟨rfl, BF.out⟩
end Go.Proofs.Ytemmgmjhomgbbaa
