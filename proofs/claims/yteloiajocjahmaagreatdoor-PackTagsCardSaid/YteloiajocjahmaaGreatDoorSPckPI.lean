/-
 The program's package pack: a route read, lists of sections and routes.
 Conditions: none.
-/
import Derived.Test.YteloiajocjahmaaGreatDoorSGPckPG
import Derived.Test.YteloiajocjahmaaGreatDoorSGPlnRefD
set_option linter.unusedVariables false
set_option linter.unusedSimpArgs false
set_option maxRecDepth 100000
namespace Go.Proofs.YteloiajocjahmaaGreatDoor
open Go.RowKit

theorem results_rowS {P : Program} {fn : Func} {p : Tmp} {ty : TypeId} (h : fn.results = #[.cell p ty]) (tmps : Array Value) (w : World) (g : Nat) {c : Array Value} {t : TypeId} (hp : tmps.getD p undef = .pointer (some ⟨g, 0, none⟩)) (hb : w.heap[g]? = some (.cells c t (0, 0)))
  {fs : Array Field} (hu : P.underlying ty = some (.struct fs)) (hi : (P.info? ty).map (·.size) = some c.size) : (results fn tmps).run P w = .ok (.agg c) w :=
 results_cell_row h tmps w g t c (0, 0) _ hp hb hu rfl hi
theorem route_read {b : List UInt8} {s s2 s3 s4 s5 s6 s7 s8 : St} {x y z t : Int} {P O : List Int} {F : List Jn} (h : numM b s = (x, s2)) (h2 : numM b s2 = (y, s3)) (h3 : numM b s3 = (z, s4)) (h4 : listM b 6 (numM b) s4 = (P, s5)) (h5 : listM b 2 (numM b) s5 = (O, s6)) (h6 : listM b 3 (joinM b) s6 = (F, s7)) (h7 : numM b s7 = (t, s8)) : routeM b s = (⟨x, y, z, P, O, F, t⟩, s8) := by
 have e0 := sig_read h h2 h3
 unfold routeM
 simp only [andM, e0, h4, h5, h6, h7]
set_option maxHeartbeats 8000000 in
theorem prouteR_any (pa pw pb : Nat) (v : Value) (b : List UInt8) (s : St) (w : World) (h : Rdr w pa pw pb v b s) :
  Calls Tryz.prog 39 #[(.agg #[nxV pa pw pb, enV pa pw pb])] w fun e w' => RdP (routeM b s) w pa pw pb v b (fun x w' => ∃ u3 u4 u5, e = .returned (.agg #[.int .i64 x.id, .int .i64 x.entry, .int .i64 x.exit, u3, u4, u5, .int .i64 x.timer]) ∧ RtOwn w' w.heap.size u3 u4 u5 x) w' := by
 have HR := Lib.hid h
 have hlt := h.lt
 obtain ⟨h0, h1, hqb⟩ := two_boxes w (.cells #[nxV pa pw pb, enV pa pw pb] 75) (.cells #[.int .i64 0, .int .i64 0, .int .i64 0, .slice none 0 0, .slice none 0 0, .slice none 0 0, .int .i64 0] 44)
 clear h
 go_enter Tryz.func39, Tryz.ntmps39
 go_upto_region 1 with fail
 have hqs : ((w.alloc (.cells #[nxV pa pw pb, enV pa pw pb] 75)).alloc (.cells #[.int .i64 0, .int .i64 0, .int .i64 0, .slice none 0 0, .slice none 0 0, .slice none 0 0, .int .i64 0] 44)).heap.size = w.heap.size + 2 := by simp
 generalize (w.alloc (.cells #[nxV pa pw pb, enV pa pw pb] 75)).alloc (.cells #[.int .i64 0, .int .i64 0, .int .i64 0, .slice none 0 0, .slice none 0 0, .slice none 0 0, .int .i64 0] 44) = q at h0 h1 hqb hqs ⊢
 obtain ⟨p0, hp0⟩ : ∃ n, n = w.heap.size := ⟨_, rfl⟩
 obtain ⟨p1, hp1⟩ : ∃ n, n = w.heap.size + 1 := ⟨_, rfl⟩
 have R1 := Lib.hid (HR.out.below hqb)
 have B1 : Hid (BelowX pa pw w.heap.size w q) := Lib.hid (.of hqb)
 have PP : Hid (p0 = w.heap.size ∧ p1 = w.heap.size + 1 ∧ pa < p0 ∧ pw < p0 ∧ pb < p0 ∧ q.heap.size = w.heap.size + 2) := Lib.hid ⟨hp0, hp1, by omega, by omega, by omega, hqs⟩
 rw [← hp0] at h0
 rw [← hp1] at h1
 have X0 := Lib.hid h0
 have X1 := Lib.hid h1
 rw [← hp1, ← hp0]
 clear hp0 hp1 hqs hqb h0 h1 hlt HR
 obtain ⟨lo, hlo⟩ : ∃ n, n = p1 + 1 := ⟨_, rfl⟩
 have LO : Hid (lo = p1 + 1 ∧ pa < lo ∧ pw < lo ∧ pb < lo ∧ p1 < lo ∧ w.heap.size ≤ lo) := Lib.hid (by have := PP.out; omega)
 clear hlo
 refine wp_region_held_drew (S := fun W => W.heap[p0]? = some (.cells #[nxV pa pw pb, enV pa pw pb] 75 (0, 0))) (by kernel_rfl) X0.out (fun hHeld => ?_)
 refine tkc 0 hHeld (fun w' hSw => cell2_of hSw) ?_;refine tkc 2 hHeld (fun w' hSw => cell2_of hSw) ?_;refine tkc 4 hHeld (fun w' hSw => cell2_of hSw) ?_;refine tkc 6 hHeld (fun w' hSw => cell2_of hSw) ?_;refine tkc 7 hHeld (fun w' hSw => cell2_of hSw) ?_;refine tkc 10 hHeld (fun w' hSw => cell2_of hSw) ?_;refine tkc 11 hHeld (fun w' hSw => cell2_of hSw) ?_;refine tkc 14 hHeld (fun w' hSw => cell2_of hSw) ?_;refine tkc 15 hHeld (fun w' hSw => cell2_of hSw) ?_;refine tkc 18 hHeld (fun w' hSw => cell2_of hSw) ?_;refine tk 8 hHeld ?_;refine tk 12 hHeld ?_;refine tk 16 hHeld ?_
 have R_q0 := Lib.hid (R1.out.below (Below.refl q.heap.size q).drew)
 have B_q0 : Hid (BelowX pa pw w.heap.size w q.drew) := Lib.hid B1.out.drew
 have X1_q0 : Hid (q.drew.heap[p1]? = some _) := X1
 have X0_q0 : Hid (q.drew.heap[p0]? = some _) := X0
 have QS : Hid (q.drew.heap.size = w.heap.size + 2) := Lib.hid PP.out.2.2.2.2.2
 generalize q.drew = q0 at R_q0 B_q0 X1_q0 X0_q0 QS hHeld ⊢
 clear R1 B1 X0 X1
 have LO_q0 : Hid (lo ≤ q0.heap.size) := Lib.hid (by have := QS.out; have := PP.out; have := LO.out; omega)
 refine tkr 1 (fun K hK => ?_)
 go_simp
 refine (pnumber_any pa pw pb v b s q0 R_q0.out).mono ?_
 rintro e w2 ⟨x2, s2, hx2, rfl, hr2, hb2⟩
 have R_w2 := Lib.hid hr2
 have B_w2 := Lib.hid (B_q0.out.step hb2 (Nat.le_refl _))
 have E2 := Lib.hid hx2
 have T1 : w2.heap[p1]? = some _ := (hb2.block p1 (heap_lt X1_q0.out) (by have := PP.out; omega) (by have := PP.out; omega)).trans X1_q0.out
 have X1_w2 := Lib.hid T1
 have T0 : w2.heap[p0]? = some _ := (hb2.block p0 (heap_lt X0_q0.out) (by have := PP.out; omega) (by have := PP.out; omega)).trans X0_q0.out
 have X0_w2 := Lib.hid T0
 have LO_w2 : Hid (lo ≤ w2.heap.size) := Lib.hid (Nat.le_trans LO_q0.out hb2.size)
 clear hr2 hb2 hx2 T1 T0 R_q0 B_q0 X1_q0 X0_q0 LO_q0 
 try go_wp2_with fail
 refine hK.out _ _ ?_ fun hHeld => ?_;exact X0_w2.out;clear hK K;try simp only [zn, Act.put]
 refine tkr 3 (fun K hK => ?_)
 go_simp
 refine (pnumber_any pa pw pb v b s2 w2 R_w2.out).mono ?_
 rintro e w3 ⟨x3, s3, hx3, rfl, hr3, hb3⟩
 have R_w3 := Lib.hid hr3
 have B_w3 := Lib.hid (B_w2.out.step hb3 (Nat.le_refl _))
 have E3 := Lib.hid hx3
 have T1 : w3.heap[p1]? = some _ := (hb3.block p1 (heap_lt X1_w2.out) (by have := PP.out; omega) (by have := PP.out; omega)).trans X1_w2.out
 have X1_w3 := Lib.hid T1
 have T0 : w3.heap[p0]? = some _ := (hb3.block p0 (heap_lt X0_w2.out) (by have := PP.out; omega) (by have := PP.out; omega)).trans X0_w2.out
 have X0_w3 := Lib.hid T0
 have LO_w3 : Hid (lo ≤ w3.heap.size) := Lib.hid (Nat.le_trans LO_w2.out hb3.size)
 clear hr3 hb3 hx3 T1 T0 R_w2 B_w2 X1_w2 X0_w2 LO_w2 
 try go_wp2_with fail
 refine hK.out _ _ ?_ fun hHeld => ?_;exact X0_w3.out;clear hK K;try simp only [zn, Act.put]
 refine tkr 5 (fun K hK => ?_)
 go_simp
 refine (pnumber_any pa pw pb v b s3 w3 R_w3.out).mono ?_
 rintro e w4 ⟨x4, s4, hx4, rfl, hr4, hb4⟩
 have R_w4 := Lib.hid hr4
 have B_w4 := Lib.hid (B_w3.out.step hb4 (Nat.le_refl _))
 have E4 := Lib.hid hx4
 have T1 : w4.heap[p1]? = some _ := (hb4.block p1 (heap_lt X1_w3.out) (by have := PP.out; omega) (by have := PP.out; omega)).trans X1_w3.out
 have X1_w4 := Lib.hid T1
 have T0 : w4.heap[p0]? = some _ := (hb4.block p0 (heap_lt X0_w3.out) (by have := PP.out; omega) (by have := PP.out; omega)).trans X0_w3.out
 have X0_w4 := Lib.hid T0
 have LO_w4 : Hid (lo ≤ w4.heap.size) := Lib.hid (Nat.le_trans LO_w3.out hb4.size)
 clear hr4 hb4 hx4 T1 T0 R_w3 B_w3 X1_w3 X0_w3 LO_w3 
 try go_wp2_with fail
 refine hK.out _ _ ?_ fun hHeld => ?_;exact X0_w4.out;clear hK K;try simp only [zn, Act.put]
 refine tkr 9 (fun K hK => ?_)
 go_simp
 refine (plist_int 6 pa pw pb v b s4 w4 R_w4.out (by decide) (by decide)).mono ?_
 rintro e w5 ⟨LP, s5, hx5, ⟨AP, nP, cP, rfl, hn5, hl5, ho5⟩, hr5, hb5⟩
 have R_w5 := Lib.hid hr5
 have B_w5 := Lib.hid (B_w4.out.step hb5 (Nat.le_refl _))
 have E5 := Lib.hid hx5
 have T1 : w5.heap[p1]? = some _ := (hb5.block p1 (heap_lt X1_w4.out) (by have := PP.out; omega) (by have := PP.out; omega)).trans X1_w4.out
 have X1_w5 := Lib.hid T1
 have T0 : w5.heap[p0]? = some _ := (hb5.block p0 (heap_lt X0_w4.out) (by have := PP.out; omega) (by have := PP.out; omega)).trans X0_w4.out
 have X0_w5 := Lib.hid T0
 have OP_w5 := Lib.hid (ho5.mono LO_w4.out)
 clear ho5 hn5 hl5
 have LO_w5 : Hid (lo ≤ w5.heap.size) := Lib.hid (Nat.le_trans LO_w4.out hb5.size)
 clear hr5 hb5 hx5 T1 T0 R_w4 B_w4 X1_w4 X0_w4 LO_w4 
 try go_wp2_with fail
 refine hK.out _ _ ?_ fun hHeld => ?_;exact X0_w5.out;clear hK K;try simp only [zn, Act.put]
 refine tkr 13 (fun K hK => ?_)
 go_simp
 refine (plist_int 2 pa pw pb v b s5 w5 R_w5.out (by decide) (by decide)).mono ?_
 rintro e w6 ⟨LO_, s6, hx6, ⟨AO, nO, cO, rfl, hn6, hl6, ho6⟩, hr6, hb6⟩
 have R_w6 := Lib.hid hr6
 have B_w6 := Lib.hid (B_w5.out.step hb6 (Nat.le_refl _))
 have E6 := Lib.hid hx6
 have T1 : w6.heap[p1]? = some _ := (hb6.block p1 (heap_lt X1_w5.out) (by have := PP.out; omega) (by have := PP.out; omega)).trans X1_w5.out
 have X1_w6 := Lib.hid T1
 have T0 : w6.heap[p0]? = some _ := (hb6.block p0 (heap_lt X0_w5.out) (by have := PP.out; omega) (by have := PP.out; omega)).trans X0_w5.out
 have X0_w6 := Lib.hid T0
 have OP_w6 : Hid (IntsOwn w6 lo (.slice AP nP cP) LP) := Lib.hid (flat_x (T := 3) (sz := 1) (R := IntR) (pa := pa) (pw := pw) (lo := lo) intF OP_w5.out (by have := LO.out; omega) (by have := LO.out; omega) hb6)
 have OO_w6 := Lib.hid (ho6.mono LO_w5.out)
 clear ho6 hn6 hl6
 have LO_w6 : Hid (lo ≤ w6.heap.size) := Lib.hid (Nat.le_trans LO_w5.out hb6.size)
 clear hr6 hb6 hx6 T1 T0 R_w5 B_w5 X1_w5 X0_w5 LO_w5 OP_w5
 try go_wp2_with fail
 refine hK.out _ _ ?_ fun hHeld => ?_;exact X0_w6.out;clear hK K;try simp only [zn, Act.put]
 refine tkr 17 (fun K hK => ?_)
 go_simp
 refine (plist_flank 3 pa pw pb v b s6 w6 R_w6.out (by decide) (by decide)).mono ?_
 rintro e w7 ⟨LF, s7, hx7, ⟨AF, nF, cF, rfl, hn7, hl7, ho7⟩, hr7, hb7⟩
 have R_w7 := Lib.hid hr7
 have B_w7 := Lib.hid (B_w6.out.step hb7 (Nat.le_refl _))
 have E7 := Lib.hid hx7
 have T1 : w7.heap[p1]? = some _ := (hb7.block p1 (heap_lt X1_w6.out) (by have := PP.out; omega) (by have := PP.out; omega)).trans X1_w6.out
 have X1_w7 := Lib.hid T1
 have T0 : w7.heap[p0]? = some _ := (hb7.block p0 (heap_lt X0_w6.out) (by have := PP.out; omega) (by have := PP.out; omega)).trans X0_w6.out
 have X0_w7 := Lib.hid T0
 have OP_w7 : Hid (IntsOwn w7 lo (.slice AP nP cP) LP) := Lib.hid (flat_x (T := 3) (sz := 1) (R := IntR) (pa := pa) (pw := pw) (lo := lo) intF OP_w6.out (by have := LO.out; omega) (by have := LO.out; omega) hb7)
 have OO_w7 : Hid (IntsOwn w7 lo (.slice AO nO cO) LO_) := Lib.hid (flat_x (T := 3) (sz := 1) (R := IntR) (pa := pa) (pw := pw) (lo := lo) intF OO_w6.out (by have := LO.out; omega) (by have := LO.out; omega) hb7)
 have OF_w7 := Lib.hid (ho7.mono LO_w6.out)
 clear ho7 hn7 hl7
 have LO_w7 : Hid (lo ≤ w7.heap.size) := Lib.hid (Nat.le_trans LO_w6.out hb7.size)
 clear hr7 hb7 hx7 T1 T0 R_w6 B_w6 X1_w6 X0_w6 LO_w6 OP_w6 OO_w6
 try go_wp2_with fail
 refine hK.out _ _ ?_ fun hHeld => ?_;exact X0_w7.out;clear hK K;try simp only [zn, Act.put]
 refine tkr 19 (fun K hK => ?_)
 go_simp
 refine (pnumber_any pa pw pb v b s7 w7 R_w7.out).mono ?_
 rintro e w8 ⟨x8, s8, hx8, rfl, hr8, hb8⟩
 have R_w8 := Lib.hid hr8
 have B_w8 := Lib.hid (B_w7.out.step hb8 (Nat.le_refl _))
 have E8 := Lib.hid hx8
 have T1 : w8.heap[p1]? = some _ := (hb8.block p1 (heap_lt X1_w7.out) (by have := PP.out; omega) (by have := PP.out; omega)).trans X1_w7.out
 have X1_w8 := Lib.hid T1
 have T0 : w8.heap[p0]? = some _ := (hb8.block p0 (heap_lt X0_w7.out) (by have := PP.out; omega) (by have := PP.out; omega)).trans X0_w7.out
 have X0_w8 := Lib.hid T0
 have OP_w8 : Hid (IntsOwn w8 lo (.slice AP nP cP) LP) := Lib.hid (flat_x (T := 3) (sz := 1) (R := IntR) (pa := pa) (pw := pw) (lo := lo) intF OP_w7.out (by have := LO.out; omega) (by have := LO.out; omega) hb8)
 have OO_w8 : Hid (IntsOwn w8 lo (.slice AO nO cO) LO_) := Lib.hid (flat_x (T := 3) (sz := 1) (R := IntR) (pa := pa) (pw := pw) (lo := lo) intF OO_w7.out (by have := LO.out; omega) (by have := LO.out; omega) hb8)
 have OF_w8 : Hid (FlanksOwn w8 lo (.slice AF nF cF) LF) := Lib.hid (flat_x (T := 98) (sz := 2) (R := JoinR) (pa := pa) (pw := pw) (lo := lo) joinF OF_w7.out (by have := LO.out; omega) (by have := LO.out; omega) hb8)
 have LO_w8 : Hid (lo ≤ w8.heap.size) := Lib.hid (Nat.le_trans LO_w7.out hb8.size)
 clear hr8 hb8 hx8 T1 T0 R_w7 B_w7 X1_w7 X0_w7 LO_w7 OP_w7 OO_w7 OF_w7
 try go_wp2_with fail
 refine hK.out _ _ ?_ fun hHeld => ?_;exact X0_w8.out;clear hK K;try simp only [zn, Act.put]
 refine tk 20 hHeld ?_
 refine tkr 21 (fun K hK => ?_)
 rw [if_pos (by rfl)]
 refine wp_store_rowP 44 (.tmp 2) (.tmp 23) rfl p1 rfl (c' := #[.int .i64 x2, .int .i64 x3, .int .i64 x4, .slice AP nP cP, .slice AO nO cO, .slice AF nF cF, .int .i64 x8]) rfl X1_w8.out infoRoute7 rfl (by simp [Value.oneCell']) ?_
 have X2 := Lib.hid (setRow_heap w8 p1 _ #[.int .i64 x2, .int .i64 x3, .int .i64 x4, .slice AP nP cP, .slice AO nO cO, .slice AF nF cF, .int .i64 x8] 44 _ X1_w8.out)
 have R3 := Lib.hid (R_w8.out.setRow p1 #[.int .i64 x2, .int .i64 x3, .int .i64 x4, .slice AP nP cP, .slice AO nO cO, .slice AF nF cF, .int .i64 x8] (by have := PP.out; omega) (by have := PP.out; omega) (by have := PP.out; omega))
 have B3 : Hid (BelowX pa pw w.heap.size w (w8.setRow p1 #[.int .i64 x2, .int .i64 x3, .int .i64 x4, .slice AP nP cP, .slice AO nO cO, .slice AF nF cF, .int .i64 x8])) := Lib.hid (B_w8.out.trans (.of (below_setRow (Below.refl _ _) (by have := PP.out; omega) _)))
 have O3 : Hid (RtOwn (w8.setRow p1 #[.int .i64 x2, .int .i64 x3, .int .i64 x4, .slice AP nP cP, .slice AO nO cO, .slice AF nF cF, .int .i64 x8]) w.heap.size (.slice AP nP cP) (.slice AO nO cO) (.slice AF nF cF) ⟨x2, x3, x4, LP, LO_, LF, x8⟩) := Lib.hid ⟨(own_kept (T := 3) (sz := 1) (R := IntR) intF OP_w8.out (grownBy_setRow w8 p1 _) (fun g hg => by have h1 := own_lo OP_w8.out g hg; have h2 := LO.out; omega)).mono LO.out.2.2.2.2.2, (own_kept (T := 3) (sz := 1) (R := IntR) intF OO_w8.out (grownBy_setRow w8 p1 _) (fun g hg => by have h1 := own_lo OO_w8.out g hg; have h2 := LO.out; omega)).mono LO.out.2.2.2.2.2, (own_kept (T := 98) (sz := 2) (R := JoinR) joinF OF_w8.out (grownBy_setRow w8 p1 _) (fun g hg => by have h1 := own_lo OF_w8.out g hg; have h2 := LO.out; omega)).mono LO.out.2.2.2.2.2⟩
 refine hK.out _ _ ?_ fun hHeld => ?_;exact ((setRow_other w8 p1 p0 #[.int .i64 x2, .int .i64 x3, .int .i64 x4, .slice AP nP cP, .slice AO nO cO, .slice AF nF cF, .int .i64 x8] (by have := PP.out; omega)).trans X0_w8.out);clear hK K;try simp only [zn, Act.put]
 refine wpAnyH_done (by kernel_rfl) ?_ _
 go_wp2_with fail
 refine bodyPost_ret (results_rowS (c := #[.int .i64 x2, .int .i64 x3, .int .i64 x4, .slice AP nP cP, .slice AO nO cO, .slice AF nF cF, .int .i64 x8]) rfl _ _ p1 rfl X2.out Tryz.underlying44 infoRoute7) rfl ?_
 exact RdP.intro ⟨x2, x3, x4, LP, LO_, LF, x8⟩ s8 (route_read E2.out E3.out E4.out E5.out E6.out E7.out E8.out) ⟨_, _, _, rfl, O3.out⟩ R3.out B3.out
set_option maxHeartbeats 4000000 in
theorem plist_section (most : Int) (pa pw pb : Nat) (v : Value) (b : List UInt8) (s : St) (w : World) (h : Rdr w pa pw pb v b s) (h0 : 0 ≤ most) (hm : most ≤ 100) :
  Calls Tryz.prog 32 #[(.agg #[nxV pa pw pb, enV pa pw pb]), .int .i64 most, .func (.func 33) #[(.agg #[nxV pa pw pb, enV pa pw pb])] #[]] w fun e w' => RdP (listM b most (secM b) s) w pa pw pb v b (fun x w' => ∃ A n c, e = .returned (.slice A n c) ∧ n = x.length ∧ n ≤ 100 ∧ SectsOwn w' w.heap.size (.slice A n c) x) w' := by
 have HR := Lib.hid h
 have hlt := h.lt
 have hq0 := heap_alloc_self w (.cells #[nxV pa pw pb, enV pa pw pb] 75)
 have hqb := below_new w (.cells #[nxV pa pw pb, enV pa pw pb] 75)
 clear h
 go_enter Tryz.func32, Tryz.ntmps32
 go_upto_region 1 with fail
 generalize w.alloc (.cells #[nxV pa pw pb, enV pa pw pb] 75) = q at hq0 hqb ⊢
 have R1 := Lib.hid (HR.out.below hqb)
 have B1 : Hid (BelowX pa pw w.heap.size w q) := Lib.hid (.of hqb)
 have PP : Hid (pa < w.heap.size ∧ pw < w.heap.size ∧ pb < w.heap.size) := Lib.hid hlt
 obtain ⟨k0, k1⟩ := cell2_of hq0
 clear hq0 hqb HR hlt
 go_wp2_with fail
 refine (prnext_any most pa pw pb v b s q R1.out).mono ?_
 rintro e w1 ⟨x, s1, hx, rfl, hr, hb⟩
 obtain ⟨n, rfl, hn⟩ := next_nat R1.out.le h0 hx
 have HX := Lib.hid hx
 have R2 := Lib.hid hr
 have B2 := Lib.hid (B1.out.step hb (Nat.le_refl _))
 have hn4 : n ≤ 100 := by omega
 have HN := Lib.hid hn4
 clear hr hb hx R1 B1 k0 k1 hn h0 hm
 go_wp2_with fail
 go_loopw [7, 12] (fun s7 s12 wr => ∃ (i c : Nat) (A : Option Addr) (L : List Sec) (si : St), s12 = .int .i64 i ∧ i ≤ n ∧ s7 = .slice A i c ∧ RepI (secM b) n s1 i L si ∧ SectsOwn wr w.heap.size (.slice A i c) L ∧ Rdr wr pa pw pb v b si ∧ BelowX pa pw w.heap.size w wr) (fun _ s12 _ => n - (intOf s12).toNat)
 case atStart => exact ⟨0, 0, none, [], s1, by go_num, by omega, rfl, RepI.zero, ListOwn.nil_, R2.out, B2.out⟩
 case round =>
  obtain ⟨i, c, A, L, si, rfl, hi, rfl, hrep, ho, hr, hb⟩ := hrel
  have HREP := Lib.hid hrep
  have HO := Lib.hid ho
  have RR := Lib.hid hr
  have BB := Lib.hid hb
  clear hrep ho hr hb R2 B2
  by_cases hlt : i < n
  ·have hlt' : (i : Int) < n := by omega
   go_wp2_with fail
   refine (psecR_any pa pw pb v b si wr RR.out).mono ?_
   rintro e w2 ⟨x, s2, hx, ⟨A2, n2, c2, rfl, hn2, ho2⟩, hr, hb⟩
   have HO2 : Hid (JoinsOwn w2 w.heap.size (.slice A2 n2 c2) x.2.2 ∧ ∀ k, (Value.slice A2 n2 c2).ownBlock = some k → k < w2.heap.size) := Lib.hid ⟨ho2.mono BB.out.size, joins_lt ho2⟩
   clear ho2 hn2
   have R3 := Lib.hid hr
   have B3 := Lib.hid (BB.out.step hb (Nat.le_refl _))
   have O3 : Hid (SectsOwn w2 w.heap.size (.slice A i c) L) := Lib.hid (secs_x HO.out PP.out.1 PP.out.2.1 hb)
   have HX2 := Lib.hid (HREP.out.step hlt hx)
   have HL := Lib.hid HREP.out.2.1
   clear hr hb hx
   go_wp2_with ((with_reducible show wpList _ _ _ (⟨some 18, _, _, _, _, _⟩ :: _) _ _); refine wpList_append_one (W := w2) (x := x) (ys := [.int .i64 x.1, .int .i64 x.2.1, .slice A2 n2 c2]) rfl (.tmp 14) (.tmp 17) rfl slSec (secO_ w.heap.size) (fun h1 h2 h3 h4 => secO_grown h1 h2 h3 h4) rfl rfl O3.out HL.out.symm rfl (by simp [Value.oneCell']) ⟨rfl, rfl, _, rfl, HO2.out.1, HO2.out.2⟩ (by omega) B3.out.size ?_; intro A5 c5 w5 ho5 hb5; have O5 := Lib.hid ho5; have B5 := Lib.hid hb5; clear ho5 hb5)
   go_roundw
   case measure => simp [intOf]; omega
   case rel => exact ⟨i + 1, c5, A5, L ++ [x], s2, by go_num, by omega, rfl, HX2.out, O5.out, R3.out.keep B5.out PP.out.1 PP.out.2.1 PP.out.2.2, B3.out.trans (.of B5.out)⟩
  ·obtain rfl : n = i := by omega
   have hlt' : ¬ (n : Int) < n := by omega
   have HA := Lib.hid (list_read HX.out HREP.out.all)
   have HL := Lib.hid HREP.out.2.1
   go_wp2_with fail
   go_ret
   exact RdP.intro L si HA.out ⟨_, _, _, rfl, HL.out.symm, HN.out, HO.out⟩ RR.out BB.out
set_option maxHeartbeats 4000000 in
theorem plist_route (most : Int) (pa pw pb : Nat) (v : Value) (b : List UInt8) (s : St) (w : World) (h : Rdr w pa pw pb v b s) (h0 : 0 ≤ most) (hm : most ≤ 100) :
  Calls Tryz.prog 38 #[(.agg #[nxV pa pw pb, enV pa pw pb]), .int .i64 most, .func (.func 39) #[(.agg #[nxV pa pw pb, enV pa pw pb])] #[]] w fun e w' => RdP (listM b most (routeM b) s) w pa pw pb v b (fun x w' => ∃ A n c, e = .returned (.slice A n c) ∧ n = x.length ∧ n ≤ 100 ∧ RoutesOwn w' w.heap.size (.slice A n c) x) w' := by
 have HR := Lib.hid h
 have hlt := h.lt
 have hq0 := heap_alloc_self w (.cells #[nxV pa pw pb, enV pa pw pb] 75)
 have hqb := below_new w (.cells #[nxV pa pw pb, enV pa pw pb] 75)
 clear h
 go_enter Tryz.func38, Tryz.ntmps38
 go_upto_region 1 with fail
 generalize w.alloc (.cells #[nxV pa pw pb, enV pa pw pb] 75) = q at hq0 hqb ⊢
 have R1 := Lib.hid (HR.out.below hqb)
 have B1 : Hid (BelowX pa pw w.heap.size w q) := Lib.hid (.of hqb)
 have PP : Hid (pa < w.heap.size ∧ pw < w.heap.size ∧ pb < w.heap.size) := Lib.hid hlt
 obtain ⟨k0, k1⟩ := cell2_of hq0
 clear hq0 hqb HR hlt
 go_wp2_with fail
 refine (prnext_any most pa pw pb v b s q R1.out).mono ?_
 rintro e w1 ⟨x, s1, hx, rfl, hr, hb⟩
 obtain ⟨n, rfl, hn⟩ := next_nat R1.out.le h0 hx
 have HX := Lib.hid hx
 have R2 := Lib.hid hr
 have B2 := Lib.hid (B1.out.step hb (Nat.le_refl _))
 have hn4 : n ≤ 100 := by omega
 have HN := Lib.hid hn4
 clear hr hb hx R1 B1 k0 k1 hn h0 hm
 go_wp2_with fail
 go_loopw [7, 12] (fun s7 s12 wr => ∃ (i c : Nat) (A : Option Addr) (L : List Rt) (si : St), s12 = .int .i64 i ∧ i ≤ n ∧ s7 = .slice A i c ∧ RepI (routeM b) n s1 i L si ∧ RoutesOwn wr w.heap.size (.slice A i c) L ∧ Rdr wr pa pw pb v b si ∧ BelowX pa pw w.heap.size w wr) (fun _ s12 _ => n - (intOf s12).toNat)
 case atStart => exact ⟨0, 0, none, [], s1, by go_num, by omega, rfl, RepI.zero, ListOwn.nil_, R2.out, B2.out⟩
 case round =>
  obtain ⟨i, c, A, L, si, rfl, hi, rfl, hrep, ho, hr, hb⟩ := hrel
  have HREP := Lib.hid hrep
  have HO := Lib.hid ho
  have RR := Lib.hid hr
  have BB := Lib.hid hb
  clear hrep ho hr hb R2 B2
  by_cases hlt : i < n
  ·have hlt' : (i : Int) < n := by omega
   go_wp2_with fail
   refine (prouteR_any pa pw pb v b si wr RR.out).mono ?_
   rintro e w2 ⟨x, s2, hx, ⟨u3, u4, u5, rfl, hu⟩, hr, hb⟩
   have hu2 : RtOwn w2 w.heap.size u3 u4 u5 x ∧ (∀ k, u3.ownBlock = some k → k < w2.heap.size) ∧ (∀ k, u4.ownBlock = some k → k < w2.heap.size) ∧ ∀ k, u5.ownBlock = some k → k < w2.heap.size := ⟨hu.mono BB.out.size, own_lt hu.path, own_lt hu.over, own_lt hu.flanks⟩
   obtain ⟨V3, e3, rfl⟩ := hu.path.slice
   obtain ⟨V4, e4, rfl⟩ := hu.over.slice
   obtain ⟨V5, e5, rfl⟩ := hu.flanks.slice
   generalize x.path.length = m3 at hu2 ⊢
   generalize x.over.length = m4 at hu2 ⊢
   generalize x.flanks.length = m5 at hu2 ⊢
   have HU := Lib.hid hu2
   clear hu hu2
   have R3 := Lib.hid hr
   have B3 := Lib.hid (BB.out.step hb (Nat.le_refl _))
   have O3 : Hid (RoutesOwn w2 w.heap.size (.slice A i c) L) := Lib.hid (routes_x HO.out PP.out.1 PP.out.2.1 hb)
   have HX2 := Lib.hid (HREP.out.step hlt hx)
   have HL := Lib.hid HREP.out.2.1
   clear hr hb hx
   go_wp2_with ((with_reducible show wpList _ _ _ (⟨some 18, _, _, _, _, _⟩ :: _) _ _); refine wpList_append_one (W := w2) (x := x) (ys := [.int .i64 x.id, .int .i64 x.entry, .int .i64 x.exit, .slice V3 m3 e3, .slice V4 m4 e4, .slice V5 m5 e5, .int .i64 x.timer]) rfl (.tmp 14) (.tmp 17) rfl slRoute (routeO w.heap.size) (fun h1 h2 h3 h4 => routeO_grown h1 h2 h3 h4) rfl rfl O3.out HL.out.symm rfl (by simp [Value.oneCell']) ⟨rfl, rfl, rfl, rfl, _, _, _, rfl, rfl, rfl, HU.out⟩ (by omega) B3.out.size ?_; intro A5 c5 w5 ho5 hb5; have O5 := Lib.hid ho5; have B5 := Lib.hid hb5; clear ho5 hb5)
   go_roundw
   case measure => simp [intOf]; omega
   case rel => exact ⟨i + 1, c5, A5, L ++ [x], s2, by go_num, by omega, rfl, HX2.out, O5.out, R3.out.keep B5.out PP.out.1 PP.out.2.1 PP.out.2.2, B3.out.trans (.of B5.out)⟩
  ·obtain rfl : n = i := by omega
   have hlt' : ¬ (n : Int) < n := by omega
   have HA := Lib.hid (list_read HX.out HREP.out.all)
   have HL := Lib.hid HREP.out.2.1
   go_wp2_with fail
   go_ret
   exact RdP.intro L si HA.out ⟨_, _, _, rfl, HL.out.symm, HN.out, HO.out⟩ RR.out BB.out
end Go.Proofs.YteloiajocjahmaaGreatDoor
