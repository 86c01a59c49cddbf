/-
 The statement StateCompares: states are compared, and copied, as the document says.
 Conditions: none.
-/
import Derived.Test.YtemmgmjhomgbbaaQGStaRef
import Derived.Test.YtemmgmjhomgbbaaQStaMix
import Derived.Test.YtemmgmjhomgbbaaQGStaPI
import Derived.Test.YtemmgmjhomgbbaaQGStaPC
set_option linter.unusedVariables false
set_option linter.unusedSimpArgs false
set_option maxRecDepth 100000
namespace Go.Proofs.Ytemmgmjhomgbbaa
open Go.RowKit

theorem st_setLk2c {W : World} {lo : Nat} {u0 u1 u2 : Value} {s : St15} (h : StOwn W lo u0 u1 u2 s) {i : Nat} (hi : i < s.lk.length) (z : Int) :
  ∃ g c, u2 = .slice (some ⟨g, 0, none⟩) s.lk.length c ∧ lo ≤ g ∧ (∃ cur, W.heap[g]? = some (.cells cur 48 (0, 0))) ∧ StOwn (W.setCell ⟨g, i * 4 + 2, none⟩ (.int .i64 z)) lo u0 u1 u2 ⟨s.tr, s.sw, s.lk.set i (s.lk[i].1, s.lk[i].2.1, z, s.lk[i].2.2.2)⟩ := by
 obtain ⟨g, c, e, hlo, hcur, ho⟩ := own_setAt15 (R := LckR) (sz := 4) (k := 2) (x := .int .i64 z) (y := (s.lk[i].1, s.lk[i].2.1, z, s.lk[i].2.2.2)) lckF h.lk hi (by decide) (fun c hc => by exact ⟨hc.1, hc.2.1, rfl, hc.2.2.2.1, hc.2.2.2.2⟩)
 exact ⟨g, c, e, hlo, hcur, own_off15 trkF h.tr (grown_setK W g _ _) (by decide) hcur, own_off15 sigF h.sw (grown_setK W g _ _) (by decide) hcur, ho⟩
theorem own_top15 {α : Type} {T : TypeId} {sz : Nat} {R : El α} {W : World} {lo n c g : Nat} {A : Option Addr} {l : List α} (h : ListOwn T sz R W lo (.slice A n c) l) (e : A = some ⟨g, 0, none⟩) : g < W.heap.size := by
 subst e
 obtain ⟨yss, ⟨hlen, hor⟩, -⟩ := h
 rcases hor with ⟨h1, h0⟩ | ⟨g', cap, cur, h1, hb, hgb, -⟩
 ·cases h1
 ·cases h1
  exact heap_lt hgb
set_option maxHeartbeats 16000000 in
theorem walk_state_compares (v y : Value) (a b : St15) (w : World) (h : StateV w w.heap.size v a) (h' : StateV w w.heap.size y b) :
  Calls Try.prog 4 #[v, y] w fun e w' => e = .returned (.bool true) ∧ Below w.heap.size w w' := by
 obtain ⟨_, _, _, rfl, h⟩ := h
 obtain ⟨R0, Rc0, rfl, hcl, hcm⟩ := h.tr.slice
 obtain ⟨Rn0, hR0⟩ : ∃ n, n = a.tr.length := ⟨_, rfl⟩
 have HR0 : Hid (TrksIn w w.heap.size (.slice R0 Rn0 Rc0) a.tr) := Lib.hid (by rw [hR0]; exact h.tr)
 have hbR0 : Rn0 ≤ 9223372036854775807 := by unfold maxLen at hcm; omega
 rw [← hR0]
 clear hcl hcm
 obtain ⟨R1, Rc1, rfl, hcl, hcm⟩ := h.sw.slice
 obtain ⟨Rn1, hR1⟩ : ∃ n, n = a.sw.length := ⟨_, rfl⟩
 have HR1 : Hid (SwisIn w w.heap.size (.slice R1 Rn1 Rc1) a.sw) := Lib.hid (by rw [hR1]; exact h.sw)
 have hbR1 : Rn1 ≤ 9223372036854775807 := by unfold maxLen at hcm; omega
 rw [← hR1]
 clear hcl hcm
 obtain ⟨R2, Rc2, rfl, hcl, hcm⟩ := h.lk.slice
 obtain ⟨Rn2, hR2⟩ : ∃ n, n = a.lk.length := ⟨_, rfl⟩
 have HR2 : Hid (LcksIn w w.heap.size (.slice R2 Rn2 Rc2) a.lk) := Lib.hid (by rw [hR2]; exact h.lk)
 have hbR2 : Rn2 ≤ 9223372036854775807 := by unfold maxLen at hcm; omega
 rw [← hR2]
 clear hcl hcm
 have NR : Hid (Rn0 = a.tr.length ∧ Rn1 = a.sw.length ∧ Rn2 = a.lk.length) := Lib.hid ⟨hR0, hR1, hR2⟩
 clear hR0 hR1 hR2 h
 obtain ⟨_, _, _, rfl, h'⟩ := h'
 obtain ⟨S0, Sc0, rfl, hcl, hcm⟩ := h'.tr.slice
 obtain ⟨Sn0, hS0⟩ : ∃ n, n = b.tr.length := ⟨_, rfl⟩
 have HS0 : Hid (TrksIn w w.heap.size (.slice S0 Sn0 Sc0) b.tr) := Lib.hid (by rw [hS0]; exact h'.tr)
 have hbS0 : Sn0 ≤ 9223372036854775807 := by unfold maxLen at hcm; omega
 rw [← hS0]
 clear hcl hcm
 obtain ⟨S1, Sc1, rfl, hcl, hcm⟩ := h'.sw.slice
 obtain ⟨Sn1, hS1⟩ : ∃ n, n = b.sw.length := ⟨_, rfl⟩
 have HS1 : Hid (SwisIn w w.heap.size (.slice S1 Sn1 Sc1) b.sw) := Lib.hid (by rw [hS1]; exact h'.sw)
 have hbS1 : Sn1 ≤ 9223372036854775807 := by unfold maxLen at hcm; omega
 rw [← hS1]
 clear hcl hcm
 obtain ⟨S2, Sc2, rfl, hcl, hcm⟩ := h'.lk.slice
 obtain ⟨Sn2, hS2⟩ : ∃ n, n = b.lk.length := ⟨_, rfl⟩
 have HS2 : Hid (LcksIn w w.heap.size (.slice S2 Sn2 Sc2) b.lk) := Lib.hid (by rw [hS2]; exact h'.lk)
 have hbS2 : Sn2 ≤ 9223372036854775807 := by unfold maxLen at hcm; omega
 rw [← hS2]
 clear hcl hcm
 have NS : Hid (Sn0 = b.tr.length ∧ Sn1 = b.sw.length ∧ Sn2 = b.lk.length) := Lib.hid ⟨hS0, hS1, hS2⟩
 clear hS0 hS1 hS2 h'
 have VA : Hid (∀ W, Below w.heap.size w W → StateV W W.heap.size (.agg #[.slice R0 Rn0 Rc0, .slice R1 Rn1 Rc1, .slice R2 Rn2 Rc2]) a) := Lib.hid (fun W b => ⟨_, _, _, rfl, ⟨(HR0.out.below trkR b).more trkR b.size, (HR1.out.below sigR b).more sigR b.size, (HR2.out.below lckR b).more lckR b.size⟩⟩)
 have VB : Hid (∀ W, Below w.heap.size w W → StateV W W.heap.size (.agg #[.slice S0 Sn0 Sc0, .slice S1 Sn1 Sc1, .slice S2 Sn2 Sc2]) b) := Lib.hid (fun W b => ⟨_, _, _, rfl, ⟨(HS0.out.below trkR b).more trkR b.size, (HS1.out.below sigR b).more sigR b.size, (HS2.out.below lckR b).more lckR b.size⟩⟩)
 clear HR0 HR1 HR2 HS0 HS1 HS2 hbR0 hbR1 hbR2 hbS0 hbS1 hbS2 NR NS
 have hq := two_boxes w (.cells #[.slice R0 Rn0 Rc0, .slice R1 Rn1 Rc1, .slice R2 Rn2 Rc2] 26) (.cells #[.slice S0 Sn0 Sc0, .slice S1 Sn1 Sc1, .slice S2 Sn2 Sc2] 26)
 go_enter Try.func4, Try.ntmps4
 go_upto_region 1 with fail
 generalize (w.alloc (.cells #[.slice R0 Rn0 Rc0, .slice R1 Rn1 Rc1, .slice R2 Rn2 Rc2] 26)).alloc (.cells #[.slice S0 Sn0 Sc0, .slice S1 Sn1 Sc1, .slice S2 Sn2 Sc2] 26) = q at hq ⊢
 obtain ⟨q0, q1, qb⟩ := hq
 obtain ⟨p0, hp0⟩ : ∃ n, n = w.heap.size := ⟨_, rfl⟩
 rw [← hp0] at q0 q1 ⊢
 have P0 : Hid (p0 = w.heap.size) := Lib.hid hp0
 have X0 := Lib.hid q0
 have X1 := Lib.hid q1
 have BQ := Lib.hid qb
 clear q0 q1 qb hp0
 obtain ⟨k0, k1, k2⟩ := cell3_of X0.out
 go_wp2_with fail
 refine (rgreatS_any _ a q (VA.out q BQ.out)).mono ?_
 rintro e w1 ⟨⟨g, rfl, hfa⟩, b⟩
 clear k0 k1 k2
 replace X0 := Lib.hid ((b.block _ (heap_lt X0.out)).trans X0.out)
 replace X1 := Lib.hid ((b.block _ (heap_lt X1.out)).trans X1.out)
 replace BQ := Lib.hid (BQ.out.trans (b.mono BQ.out.size))
 clear b
 cases g with
 | true =>
  go_wp2_with fail
  go_ret
  exact ⟨rfl, BQ.out⟩
 | false =>
 have FA := Lib.hid (hfa rfl)
 clear hfa
 obtain ⟨k0, k1, k2⟩ := cell3_of X1.out
 go_wp2_with fail
 refine (rgreatS_any _ b w1 (VB.out w1 BQ.out)).mono ?_
 rintro e w2 ⟨⟨g, rfl, -⟩, b⟩
 clear k0 k1 k2
 replace X0 := Lib.hid ((b.block _ (heap_lt X0.out)).trans X0.out)
 replace X1 := Lib.hid ((b.block _ (heap_lt X1.out)).trans X1.out)
 replace BQ := Lib.hid (BQ.out.trans (b.mono BQ.out.size))
 clear b
 cases g with
 | true =>
  go_wp2_with fail
  go_ret
  exact ⟨rfl, BQ.out⟩
 | false =>
 obtain ⟨k0, k1, k2⟩ := cell3_of X0.out
 go_wp2_with fail
 refine (twin15_any _ a w2 (VA.out w2 BQ.out) FA.out).mono ?_
 rintro e w3 ⟨u0, u1, u2, rfl, ho, b⟩
 have LO : Hid (w.heap.size ≤ w2.heap.size) := Lib.hid BQ.out.size
 clear k0 k1 k2
 replace X0 := Lib.hid ((b.block _ (heap_lt X0.out)).trans X0.out)
 replace X1 := Lib.hid ((b.block _ (heap_lt X1.out)).trans X1.out)
 replace BQ := Lib.hid (BQ.out.trans (b.mono BQ.out.size))
 clear b
 obtain ⟨T0, x0, rfl⟩ := ho.tr.slice
 obtain ⟨T1, x1, rfl⟩ := ho.sw.slice
 obtain ⟨T2, x2, rfl⟩ := ho.lk.slice
 obtain ⟨n0, hn0⟩ : ∃ n, n = a.tr.length := ⟨_, rfl⟩
 obtain ⟨n1, hn1⟩ : ∃ n, n = a.sw.length := ⟨_, rfl⟩
 obtain ⟨n2, hn2⟩ : ∃ n, n = a.lk.length := ⟨_, rfl⟩
 rw [← hn0, ← hn1, ← hn2] at ho
 rw [← hn0, ← hn1, ← hn2]
 have Hn : Hid (n0 = a.tr.length ∧ n1 = a.sw.length ∧ n2 = a.lk.length) := Lib.hid ⟨hn0, hn1, hn2⟩
 clear hn0 hn1 hn2
 go_upto_region 4 with ((with_reducible show wpList _ _ _ (⟨none, .store _ _ _, _, _, _, _⟩ :: _) _ _); refine wpList_store_rowS rfl _ (.tmp 5) (.tmp 16) rfl w3.heap.size rfl (c' := #[.slice T0 n0 x0, .slice T1 n1 x1, .slice T2 n2 x2]) rfl (heap_alloc_self w3 (.cells #[.slice none 0 0, .slice none 0 0, .slice none 0 0] 26)) infoStR15 rfl (by simp [Value.oneCell']) ?_)
 rw [World.setRow_alloc_new]
 have hx1 := heap_alloc_self w3 (.cells #[.slice T0 n0 x0, .slice T1 n1 x1, .slice T2 n2 x2] 26)
 have b := below_new w3 (.cells #[.slice T0 n0 x0, .slice T1 n1 x1, .slice T2 n2 x2] 26)
 have hO := ho.below b
 generalize w3.alloc (.cells #[.slice T0 n0 x0, .slice T1 n1 x1, .slice T2 n2 x2] 26) = w4 at b hx1 hO ⊢
 obtain ⟨p5, hp6⟩ : ∃ n, n = w3.heap.size := ⟨_, rfl⟩
 rw [← hp6] at hx1 ⊢
 replace X0 := Lib.hid ((b.block _ (heap_lt X0.out)).trans X0.out)
 replace X1 := Lib.hid ((b.block _ (heap_lt X1.out)).trans X1.out)
 replace BQ := Lib.hid (BQ.out.trans (b.mono BQ.out.size))
 have X5 := Lib.hid hx1
 have TO := Lib.hid hO
 clear b hx1 hp6 hO ho
 obtain ⟨EA, hEA⟩ : ∃ z, z = eqB a b := ⟨_, rfl⟩
 obtain ⟨EK, hEK⟩ : ∃ z, z = eqB (keptS a) (keptS b) := ⟨_, rfl⟩
 have HEA := Lib.hid hEA
 have HEK := Lib.hid hEK
 have HAA : Hid (eqB a a = true) := Lib.hid (eqB_true rfl)
 clear hEA hEK
 refine wp_region_held_drew (S := fun v => Below w4.heap.size w4 v) (by kernel_rfl) (Below.refl w4.heap.size w4).drew (fun hHeld => ?_)
 refine tkc 0 hHeld (fun w' hSw => cell3_of ((hSw.block _ (heap_lt X5.out)).trans X5.out)) ?_;refine tkc 1 hHeld (fun w' hSw => cell3_of ((hSw.block _ (heap_lt X0.out)).trans X0.out)) ?_
 have tb := (Below.refl w4.heap.size w4).drew
 generalize w4.drew = z0 at tb hHeld ⊢
 have HB := Lib.hid tb
 clear tb
 refine tkr 2 (fun K hK => ?_)
 go_simp
 refine (rsame15_any _ _ a a z0 ⟨_, _, _, rfl, (TO.out.in_.below HB.out).more HB.out.size⟩ (VA.out z0 (BQ.out.trans (HB.out.mono BQ.out.size)))).mono ?_
 rintro e z1 ⟨rfl, b⟩
 rw [HAA.out]
 have tb := HB.out.trans (b.mono HB.out.size)
 clear HB b
 have HB := Lib.hid tb
 clear tb
 try go_wp2_with fail
 refine hK.out _ _ ?_ fun hHeld => ?_;exact HB.out;clear hK K;try simp only [zn, Act.put]
 refine tk 3 hHeld ?_;refine tk 4 hHeld ?_;refine tkc 5 hHeld (fun w' hSw => cell3_of ((hSw.block _ (heap_lt X0.out)).trans X0.out)) ?_;refine tkc 6 hHeld (fun w' hSw => cell3_of ((hSw.block _ (heap_lt X1.out)).trans X1.out)) ?_;refine tkc 8 hHeld (fun w' hSw => cell3_of ((hSw.block _ (heap_lt X0.out)).trans X0.out)) ?_;refine tkc 9 hHeld (fun w' hSw => cell3_of ((hSw.block _ (heap_lt X1.out)).trans X1.out)) ?_
 refine tkr 7 (fun K hK => ?_)
 rw [if_pos (by rfl)]
 go_simp
 refine (same15_any _ _ a b z1 (VA.out z1 (BQ.out.trans (HB.out.mono BQ.out.size))) (VB.out z1 (BQ.out.trans (HB.out.mono BQ.out.size)))).mono ?_
 rintro e z2 ⟨rfl, b⟩
 rw [← HEA.out]
 have tb := HB.out.trans (b.mono HB.out.size)
 clear HB b
 have HB := Lib.hid tb
 clear tb
 try go_wp2_with fail
 refine hK.out _ _ ?_ fun hHeld => ?_;exact HB.out;clear hK K;try simp only [zn, Act.put]
 refine tkr 10 (fun K hK => ?_)
 rw [if_pos (by rfl)]
 go_simp
 refine (rsame15_any _ _ a b z2 (VA.out z2 (BQ.out.trans (HB.out.mono BQ.out.size))) (VB.out z2 (BQ.out.trans (HB.out.mono BQ.out.size)))).mono ?_
 rintro e z3 ⟨rfl, b⟩
 rw [← HEA.out]
 have tb := HB.out.trans (b.mono HB.out.size)
 clear HB b
 have HB := Lib.hid tb
 clear tb
 try go_wp2_with fail
 refine hK.out _ _ ?_ fun hHeld => ?_;exact HB.out;clear hK K;try simp only [zn, Act.put]
 refine tk 11 hHeld ?_
 try rw [bne_self_eq_false]
 refine tk 12 hHeld ?_;refine tk 13 hHeld ?_;refine tkc 14 hHeld (fun w' hSw => cell3_of ((hSw.block _ (heap_lt X0.out)).trans X0.out)) ?_;refine tkc 15 hHeld (fun w' hSw => cell3_of ((hSw.block _ (heap_lt X1.out)).trans X1.out)) ?_;refine tkc 17 hHeld (fun w' hSw => cell3_of ((hSw.block _ (heap_lt X0.out)).trans X0.out)) ?_;refine tkc 18 hHeld (fun w' hSw => cell3_of ((hSw.block _ (heap_lt X1.out)).trans X1.out)) ?_
 refine tkr 16 (fun K hK => ?_)
 rw [if_pos (by rfl)]
 go_simp
 refine (kept15_any _ _ a b z3 (VA.out z3 (BQ.out.trans (HB.out.mono BQ.out.size))) (VB.out z3 (BQ.out.trans (HB.out.mono BQ.out.size)))).mono ?_
 rintro e z4 ⟨rfl, b⟩
 rw [← HEK.out]
 have tb := HB.out.trans (b.mono HB.out.size)
 clear HB b
 have HB := Lib.hid tb
 clear tb
 try go_wp2_with fail
 refine hK.out _ _ ?_ fun hHeld => ?_;exact HB.out;clear hK K;try simp only [zn, Act.put]
 refine tkr 19 (fun K hK => ?_)
 rw [if_pos (by rfl)]
 go_simp
 refine (rkept15_any _ _ a b z4 (VA.out z4 (BQ.out.trans (HB.out.mono BQ.out.size))) (VB.out z4 (BQ.out.trans (HB.out.mono BQ.out.size)))).mono ?_
 rintro e z5 ⟨rfl, b⟩
 rw [← HEK.out]
 have tb := HB.out.trans (b.mono HB.out.size)
 clear HB b
 have HB := Lib.hid tb
 clear tb
 try go_wp2_with fail
 refine hK.out _ _ ?_ fun hHeld => ?_;exact HB.out;clear hK K;try simp only [zn, Act.put]
 refine tk 20 hHeld ?_
 try rw [bne_self_eq_false]
 refine tk 21 hHeld ?_
 refine wpAnyH_done (by kernel_rfl) ?_ _
 have tTO := TO.out.below HB.out
 clear TO
 have TO := Lib.hid tTO
 clear tTO HEA HEK
 replace X0 := Lib.hid ((HB.out.block _ (heap_lt X0.out)).trans X0.out)
 replace X1 := Lib.hid ((HB.out.block _ (heap_lt X1.out)).trans X1.out)
 replace X5 := Lib.hid ((HB.out.block _ (heap_lt X5.out)).trans X5.out)
 replace BQ := Lib.hid (BQ.out.trans (HB.out.mono BQ.out.size))
 clear HB
 obtain ⟨k0, k1, k2⟩ := cell3_of X0.out
 go_wp2_with fail
 refine (rtwin15_any _ a z5 (VA.out z5 BQ.out) FA.out).mono ?_
 rintro e w6 ⟨u0, u1, u2, rfl, ho, b⟩
 clear k0 k1 k2
 have TTOP : Hid (∀ g, (T0 = some ⟨g, 0, none⟩ → g < z5.heap.size) ∧ (T2 = some ⟨g, 0, none⟩ → g < z5.heap.size)) := Lib.hid (fun g => ⟨fun e => own_top15 TO.out.tr e, fun e => own_top15 TO.out.lk e⟩)
 replace TO := Lib.hid (TO.out.below b)
 replace X0 := Lib.hid ((b.block _ (heap_lt X0.out)).trans X0.out)
 replace X1 := Lib.hid ((b.block _ (heap_lt X1.out)).trans X1.out)
 replace X5 := Lib.hid ((b.block _ (heap_lt X5.out)).trans X5.out)
 replace BQ := Lib.hid (BQ.out.trans (b.mono BQ.out.size))
 clear b
 obtain ⟨U0, y0, rfl⟩ := ho.tr.slice
 obtain ⟨U1, y1, rfl⟩ := ho.sw.slice
 obtain ⟨U2, y2, rfl⟩ := ho.lk.slice
 obtain ⟨m0, hm0⟩ : ∃ n, n = a.tr.length := ⟨_, rfl⟩
 obtain ⟨m1, hm1⟩ : ∃ n, n = a.sw.length := ⟨_, rfl⟩
 obtain ⟨m2, hm2⟩ : ∃ n, n = a.lk.length := ⟨_, rfl⟩
 rw [← hm0, ← hm1, ← hm2] at ho
 rw [← hm0, ← hm1, ← hm2]
 have Hm : Hid (m0 = a.tr.length ∧ m1 = a.sw.length ∧ m2 = a.lk.length) := Lib.hid ⟨hm0, hm1, hm2⟩
 clear hm0 hm1 hm2
 go_upto_region 7 with ((with_reducible show wpList _ _ _ (⟨none, .store _ _ _, _, _, _, _⟩ :: _) _ _); refine wpList_store_rowS rfl _ (.tmp 6) (.tmp 40) rfl w6.heap.size rfl (c' := #[.slice U0 m0 y0, .slice U1 m1 y1, .slice U2 m2 y2]) rfl (heap_alloc_self w6 (.cells #[.slice none 0 0, .slice none 0 0, .slice none 0 0] 26)) infoStR15 rfl (by simp [Value.oneCell']) ?_)
 rw [World.setRow_alloc_new]
 have hx1 := heap_alloc_self w6 (.cells #[.slice U0 m0 y0, .slice U1 m1 y1, .slice U2 m2 y2] 26)
 have b := below_new w6 (.cells #[.slice U0 m0 y0, .slice U1 m1 y1, .slice U2 m2 y2] 26)
 have hO := ho.below b
 generalize w6.alloc (.cells #[.slice U0 m0 y0, .slice U1 m1 y1, .slice U2 m2 y2] 26) = w7 at b hx1 hO ⊢
 obtain ⟨p6, hp6⟩ : ∃ n, n = w6.heap.size := ⟨_, rfl⟩
 rw [← hp6] at hx1 ⊢
 replace TO := Lib.hid (TO.out.below b)
 replace X0 := Lib.hid ((b.block _ (heap_lt X0.out)).trans X0.out)
 replace X1 := Lib.hid ((b.block _ (heap_lt X1.out)).trans X1.out)
 replace X5 := Lib.hid ((b.block _ (heap_lt X5.out)).trans X5.out)
 replace BQ := Lib.hid (BQ.out.trans (b.mono BQ.out.size))
 have X6 := Lib.hid hx1
 have UO := Lib.hid hO
 clear b hx1 hp6 hO ho
 obtain ⟨tt0, htt⟩ : ∃ z, z = a := ⟨_, rfl⟩
 have TL0 : Hid (tt0.tr.length = n0 ∧ tt0.lk.length = n2) := Lib.hid (by rw [htt]; have := Hn.out; omega)
 have tTO : StOwn w7 w2.heap.size (.slice T0 n0 x0) (.slice T1 n1 x1) (.slice T2 n2 x2) tt0 := by rw [htt]; exact TO.out
 clear TO htt
 have TO := Lib.hid tTO
 clear tTO
 have hn0b : n0 ≤ 9223372036854775807 := by have := Hn.out; have := FA.out; unfold FewS at this; omega
 have hn2b : n2 ≤ 9223372036854775807 := by have := Hn.out; have := FA.out; unfold FewS at this; omega
 obtain ⟨l0, l1, l2⟩ := cell3_of X5.out
 go_upto_region 8 with fail
 go_loopw [7] (fun s7 wr => ∃ i : Nat, i ≤ n0 ∧ s7 = .int .i64 i ∧ (∃ tt : St15, StOwn wr w2.heap.size (.slice T0 n0 x0) (.slice T1 n1 x1) (.slice T2 n2 x2) tt ∧ tt.tr.length = n0 ∧ tt.lk.length = n2) ∧ StOwn wr z5.heap.size (.slice U0 m0 y0) (.slice U1 m1 y1) (.slice U2 m2 y2) a ∧ wr.heap[p0]? = some (.cells #[.slice R0 Rn0 Rc0, .slice R1 Rn1 Rc1, .slice R2 Rn2 Rc2] 26 (0, 0)) ∧ wr.heap[p5]? = some (.cells #[.slice T0 n0 x0, .slice T1 n1 x1, .slice T2 n2 x2] 26 (0, 0)) ∧ wr.heap[p6]? = some (.cells #[.slice U0 m0 y0, .slice U1 m1 y1, .slice U2 m2 y2] 26 (0, 0)) ∧ Below w.heap.size w wr) (fun s7 _ => n0 - (intOf s7).toNat)
 case atStart => exact ⟨0, by omega, by go_num, ⟨tt0, TO.out, TL0.out.1, TL0.out.2⟩, UO.out, X0.out, X5.out, X6.out, BQ.out⟩
 case round =>
  clear TO UO X0 X5 X6 BQ TL0
  obtain ⟨wx, hwx⟩ : ∃ z, z = wr := ⟨_, rfl⟩
  subst hwx
  obtain ⟨i, hi, rfl, ⟨tt, hto, htl0, htl2⟩, huo, hx0, hx5, hx6, hbq⟩ := hrel
  have TO := Lib.hid hto
  have UO := Lib.hid huo
  have X0 := Lib.hid hx0
  have X5 := Lib.hid hx5
  have X6 := Lib.hid hx6
  have BQ := Lib.hid hbq
  have HTL := Lib.hid (And.intro htl0 htl2)
  clear hto huo hx0 hx5 hx6 hbq htl0 htl2
  obtain ⟨l0, l1, l2⟩ := cell3_of X5.out
  by_cases hlt : i < n0
  ·have hlt' : (i : Int) < n0 := by omega
   have his : i < tt.tr.length := by have := HTL.out; omega
   obtain ⟨bq, oq, ebq, hbq, hc0, hc1, hr1, hr2⟩ := TO.out.in_.tr.at his
   obtain ⟨x2, hx2⟩ : ∃ z, z = tt.tr[i].2 := ⟨_, rfl⟩
   rw [← hx2] at hc1 hr1 hr2
   obtain ⟨zz, hzz⟩ : ∃ z, z = (x2 + 1) % 256 := ⟨_, rfl⟩
   have HZZ : Hid (0 ≤ zz ∧ zz < 256) := Lib.hid (by omega)
   obtain ⟨g, cg, eg, hlog, ⟨cur, hcur⟩, hset⟩ := st_setTr TO.out his (z := zz) (by have := HZZ.out; omega)
   injection eg with e1 e2 e3
   have hat := e1
   rw [ebq] at e1
   injection e1 with e1
   injection e1 with e1 e4
   subst e1
   subst e4
   have HTG : Hid (bq < z5.heap.size) := Lib.hid ((TTOP.out bq).1 hat)
   subst hat
   have g9 := hc1
   simp only [Nat.zero_add] at g9
   have fz := frozen2_of hcur (i * 2 + 1)
   have HCUR := Lib.hid hcur
   have HLO := Lib.hid hlog
   have HN5 := Lib.hid hset
   clear hset e2 e3 hlog ebq hc0 hc1 hr1 hr2 hx2 hbq
   go_upto_region 10 with fail
   go_region
   rw [← hzz]
   clear hzz
   clear l0 l1 l2 g9
   have hd := (Below.refl (wx.setCell ⟨bq, i * 2 + 1, none⟩ (.int .u8 zz)).heap.size (wx.setCell ⟨bq, i * 2 + 1, none⟩ (.int .u8 zz))).drew
   have t0 := (hd.block _ (heap_lt (far_cells15 (j := i * 2 + 1) (v := .int .u8 zz) X0.out HCUR.out (by decide)))).trans (far_cells15 (j := i * 2 + 1) (v := .int .u8 zz) X0.out HCUR.out (by decide))
   have t5 := (hd.block _ (heap_lt (far_cells15 (j := i * 2 + 1) (v := .int .u8 zz) X5.out HCUR.out (by decide)))).trans (far_cells15 (j := i * 2 + 1) (v := .int .u8 zz) X5.out HCUR.out (by decide))
   have t6 := (hd.block _ (heap_lt (far_cells15 (j := i * 2 + 1) (v := .int .u8 zz) X6.out HCUR.out (by decide)))).trans (far_cells15 (j := i * 2 + 1) (v := .int .u8 zz) X6.out HCUR.out (by decide))
   have hgk := grown_setK wx bq (i * 2 + 1) (.int .u8 zz)
   have tU0 := UO.out.off hgk HTG.out
   have tU := tU0.below hd
   have tB0 := below_set BQ.out (show w.heap.size ≤ bq by have := HLO.out; have := LO.out; omega) (i * 2 + 1) (.int .u8 zz)
   have tB := tB0.trans (hd.mono tB0.size)
   have tT := HN5.out.below hd
   generalize ((wx.setCell ⟨bq, i * 2 + 1, none⟩ (.int .u8 zz))).drew = wy at hd t0 t5 t6 tU tB tT ⊢
   clear TO UO X0 X5 X6 BQ HN5 HCUR hcur fz hgk tU0 tB0 hd
   have UO := Lib.hid tU
   have X0 := Lib.hid t0
   have X5 := Lib.hid t5
   have X6 := Lib.hid t6
   have BQ := Lib.hid tB
   have TO := Lib.hid tT
   clear tU t0 t5 t6 tB tT
   have HTL' : Hid (((⟨tt.tr.set i (tt.tr[i].1, zz), tt.sw, tt.lk⟩ : St15)).tr.length = n0 ∧ ((⟨tt.tr.set i (tt.tr[i].1, zz), tt.sw, tt.lk⟩ : St15)).lk.length = n2) := Lib.hid (by
    have := HTL.out
    simp only [List.length_set]
    exact this)
   go_wp2_with fail
   go_roundw
   case measure => simp [intOf]; omega
   case rel => exact ⟨i + 1, by omega, by go_num, ⟨_, TO.out, HTL'.out.1, HTL'.out.2⟩, UO.out, X0.out, X5.out, X6.out, BQ.out⟩
  ·obtain rfl : n0 = i := by omega
   have hlt' : ¬ (n0 : Int) < n0 := by omega
   obtain ⟨tt0, htt⟩ : ∃ z, z = tt := ⟨_, rfl⟩
   subst htt
   have TL0 := HTL
   clear HTL
   go_upto_region 12 with fail
   go_loopw [8] (fun s8 wr => ∃ i : Nat, i ≤ n2 ∧ s8 = .int .i64 i ∧ (∃ tt : St15, StOwn wr w2.heap.size (.slice T0 n0 x0) (.slice T1 n1 x1) (.slice T2 n2 x2) tt ∧ tt.tr.length = n0 ∧ tt.lk.length = n2) ∧ StOwn wr z5.heap.size (.slice U0 m0 y0) (.slice U1 m1 y1) (.slice U2 m2 y2) a ∧ wr.heap[p0]? = some (.cells #[.slice R0 Rn0 Rc0, .slice R1 Rn1 Rc1, .slice R2 Rn2 Rc2] 26 (0, 0)) ∧ wr.heap[p5]? = some (.cells #[.slice T0 n0 x0, .slice T1 n1 x1, .slice T2 n2 x2] 26 (0, 0)) ∧ wr.heap[p6]? = some (.cells #[.slice U0 m0 y0, .slice U1 m1 y1, .slice U2 m2 y2] 26 (0, 0)) ∧ Below w.heap.size w wr) (fun s8 _ => n2 - (intOf s8).toNat)
   case atStart => exact ⟨0, by omega, by go_num, ⟨tt0, TO.out, TL0.out.1, TL0.out.2⟩, UO.out, X0.out, X5.out, X6.out, BQ.out⟩
   case round =>
    clear TO UO X0 X5 X6 BQ TL0
    obtain ⟨wx, hwx⟩ : ∃ z, z = wr := ⟨_, rfl⟩
    subst hwx
    obtain ⟨i, hi, rfl, ⟨tt, hto, htl0, htl2⟩, huo, hx0, hx5, hx6, hbq⟩ := hrel
    have TO := Lib.hid hto
    have UO := Lib.hid huo
    have X0 := Lib.hid hx0
    have X5 := Lib.hid hx5
    have X6 := Lib.hid hx6
    have BQ := Lib.hid hbq
    have HTL := Lib.hid (And.intro htl0 htl2)
    clear hto huo hx0 hx5 hx6 hbq htl0 htl2
    obtain ⟨l0, l1, l2⟩ := cell3_of X5.out
    by_cases hlt : i < n2
    ·have hlt' : (i : Int) < n2 := by omega
     have his : i < tt.lk.length := by have := HTL.out; omega
     obtain ⟨bq, oq, ebq, hbq, hc0, hc1, hc2, -⟩ := TO.out.in_.lk.at his
     obtain ⟨x2, hx2⟩ : ∃ z, z = tt.lk[i].2.2.1 := ⟨_, rfl⟩
     rw [← hx2] at hc2
     obtain ⟨g, cg, eg, hlog, ⟨cur, hcur⟩, hset⟩ := st_setLk2c TO.out his 77
     injection eg with e1 e2 e3
     have hat := e1
     rw [ebq] at e1
     injection e1 with e1
     injection e1 with e1 e4
     subst e1
     subst e4
     have HTG : Hid (bq < z5.heap.size) := Lib.hid ((TTOP.out bq).2 hat)
     subst hat
     have g9 := hc2
     simp only [Nat.zero_add] at g9
     have fz := frozen2_of hcur (i * 4 + 2)
     have HCUR := Lib.hid hcur
     have HLO := Lib.hid hlog
     have HN5 := Lib.hid hset
     clear hset e2 e3 hlog ebq hc0 hc1 hc2 hx2 hbq
     go_upto_region 13 with fail
     clear l0 l1 l2 g9
     have t0 := far_cells15 (j := i * 4 + 2) (v := .int .i64 77) X0.out HCUR.out (by decide)
     have t5 := far_cells15 (j := i * 4 + 2) (v := .int .i64 77) X5.out HCUR.out (by decide)
     have t6 := far_cells15 (j := i * 4 + 2) (v := .int .i64 77) X6.out HCUR.out (by decide)
     have hgk := grown_setK wx bq (i * 4 + 2) (.int .i64 77)
     have tU0 := UO.out.off hgk HTG.out
     have tU := tU0
     have tB0 := below_set BQ.out (show w.heap.size ≤ bq by have := HLO.out; have := LO.out; omega) (i * 4 + 2) (.int .i64 77)
     have tB := tB0
     have tT := HN5.out
     generalize (wx.setCell ⟨bq, i * 4 + 2, none⟩ (.int .i64 77)) = wy at t0 t5 t6 tU tB tT ⊢
     clear TO UO X0 X5 X6 BQ HN5 HCUR hcur fz hgk tU0 tB0 
     have UO := Lib.hid tU
     have X0 := Lib.hid t0
     have X5 := Lib.hid t5
     have X6 := Lib.hid t6
     have BQ := Lib.hid tB
     have TO := Lib.hid tT
     clear tU t0 t5 t6 tB tT
     have HTL' : Hid (((⟨tt.tr, tt.sw, tt.lk.set i (tt.lk[i].1, tt.lk[i].2.1, 77, tt.lk[i].2.2.2)⟩ : St15)).tr.length = n0 ∧ ((⟨tt.tr, tt.sw, tt.lk.set i (tt.lk[i].1, tt.lk[i].2.1, 77, tt.lk[i].2.2.2)⟩ : St15)).lk.length = n2) := Lib.hid (by
      have := HTL.out
      simp only [List.length_set]
      exact this)
     go_wp2_with fail
     go_roundw
     case measure => simp [intOf]; omega
     case rel => exact ⟨i + 1, by omega, by go_num, ⟨_, TO.out, HTL'.out.1, HTL'.out.2⟩, UO.out, X0.out, X5.out, X6.out, BQ.out⟩
    ·obtain rfl : n2 = i := by omega
     have hlt' : ¬ (n2 : Int) < n2 := by omega
     obtain ⟨tt0, htt⟩ : ∃ z, z = tt := ⟨_, rfl⟩
     subst htt
     have TL0 := HTL
     clear HTL
     obtain ⟨k0, k1, k2⟩ := cell3_of X0.out
     obtain ⟨m0_, m1_, m2_⟩ := cell3_of X6.out
     go_wp2_with fail
     refine (rsame15_any _ _ a a wx (VA.out wx BQ.out) ⟨_, _, _, rfl, UO.out.in_⟩).mono ?_
     rintro e w8 ⟨rfl, b⟩
     rw [HAA.out]
     have BF := Lib.hid (BQ.out.trans (b.mono BQ.out.size))
     clear b k0 k1 k2 m0_ m1_ m2_
     go_wp2_with fail
     go_ret
     exact ⟨rfl, BF.out⟩
end Go.Proofs.Ytemmgmjhomgbbaa
