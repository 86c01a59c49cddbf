/-
 The program's package plan: copies.
 Conditions: none.
-/
import Derived.Test.YtneeocnjfnneoaaGreatVPlnPB
import Derived.Test.YtneeocnjfnneoaaGreatVPlnPC
import Derived.Test.YtneeocnjfnneoaaGreatVPlnPD
import Derived.Test.YtneeocnjfnneoaaGreatVGTrkPH
import Derived.Test.YtneeocnjfnneoaaGreatVGPlnRefD
set_option linter.unusedVariables false
set_option linter.unusedSimpArgs false
set_option maxRecDepth 100000
namespace Go.Proofs.YtneeocnjfnneoaaGreat
open Go.RowKit

theorem clone_int (v : Value) (l : List Int) (w : World) (h : IntsIn w w.heap.size v l) (hl : l.length ≤ 1000) :
  Calls Tryz.prog 96 #[v] w fun e w' => ∃ u, e = .returned u ∧ IntsOwn w' w.heap.size u l ∧ Below w.heap.size w w' := by
 have H := Lib.hid h
 have HLEN := Lib.hid hl
 obtain ⟨A, cap, rfl, -, -, hn, -⟩ := h
 cases A with
 | none =>
  obtain rfl := hn rfl
  have hx : l = [] := by obtain ⟨A', c', e, h1, _⟩ := H.out; cases e; exact List.eq_nil_of_length_eq_zero (by omega)
  subst hx
  have he : ∀ w : World, (binOp .eql 22 (.slice none 0 0) (.slice none 0 0)).run Tryz.prog w = .ok (.bool true) w := fun _ => rfl
  go_enter Tryz.func96, Tryz.ntmps96
  go_wp2_with fail
  go_ret
  exact ⟨_, rfl, ListOwn.nil_, Below.refl _ _⟩
 | some a =>
  obtain ⟨i0, hi, hz0, hz1, hz2⟩ := info_parts infoInt
  have I0 := Lib.hid hi
  have I1 := Lib.hid hz0
  have I2 := Lib.hid hz1
  have I3 := Lib.hid hz2
  obtain ⟨n, hn2⟩ : ∃ n, n = l.length := ⟨_, rfl⟩
  have HN := Lib.hid hn2
  have HA : Hid (IntsIn w w.heap.size (.slice (some a) n cap) l) := Lib.hid (by rw [hn2]; exact H.out)
  rw [← hn2]
  have he : ∀ w : World, (binOp .eql 22 (.slice (some a) n cap) (.slice none 0 0)).run Tryz.prog w = .ok (.bool false) w := fun _ => rfl
  have hq0 := heap_alloc_self w (.cells #[] 3)
  have hqb := below_new w (.cells #[] 3)
  obtain ⟨yss, hy1, hy2, hy3, hy4, hy5, hy6, hy7⟩ := ((HA.out.below intR hqb).more intR hqb.size).cells (by omega) intR_full intR_cells
  have Y1 := Lib.hid hy1
  have Y2 := Lib.hid hy2
  have Y3 := Lib.hid hy3
  have Y4 := Lib.hid hy4
  have Y6 := Lib.hid hy6
  have Y7 := Lib.hid hy7
  have YL : Hid (yss.flatten.length = n * 1) := Lib.hid (by rw [flat_length _ hy2, hy1, HN.out])
  have Q0 := Lib.hid hq0
  have QB := Lib.hid hqb
  have NL : Hid (n ≤ 1000) := Lib.hid (by rw [HN.out]; exact HLEN.out)
  clear hi hz0 hz1 hz2 hn hl hn2 H hy1 hy2 hy3 hy4 hy5 hy6 hy7 hq0 hqb
  go_enter Tryz.func96, Tryz.ntmps96
  go_wp2_with ((with_reducible show wpList _ _ _ (⟨some 7, _, _, _, _, _⟩ :: _) _ _); refine wpList_append_list rfl (.tmp 5) (.tmp 6) _ rfl Tryz.underlying22 I0.out I1.out rfl I2.out (by decide) I3.out (by decide) rfl (base := w.heap.size) (n := 0) (ys := []) ⟨rfl, .inr ⟨_, _, _, rfl, Nat.le_refl _, Q0.out, Nat.zero_le _, Nat.zero_le _, rfl, rfl⟩⟩ rfl YL.out Y4.out Y7.out Y6.out (by have := NL.out; omega) QB.out.size ?_; intro v1 w1 hown1 hgrow1)
  go_ret
  rw [Nat.zero_add, List.nil_append] at hown1
  have hb1 : Below w.heap.size w w1 := QB.out.grown hgrow1 (by simp) (fun k hk => by cases hk; exact Nat.le_refl _)
  exact ⟨_, rfl, ⟨yss, by rw [← HN.out]; exact hown1, Y1.out, by rw [← HN.out]; have := NL.out; unfold maxLen; omega, Y2.out, fun j ys x h1 h2 => Y3.out j ys x h1 h2⟩, hb1⟩

theorem clone_fl (v : Value) (l : List Jn) (w : World) (h : JoinsIn w w.heap.size v l) (hl : l.length ≤ 1000) :
  Calls Tryz.prog 97 #[v] w fun e w' => ∃ u, e = .returned u ∧ FlanksOwn w' w.heap.size u l ∧ Below w.heap.size w w' := by
 have H := Lib.hid h
 have HLEN := Lib.hid hl
 obtain ⟨A, cap, rfl, -, -, hn, -⟩ := h
 cases A with
 | none =>
  obtain rfl := hn rfl
  have hx : l = [] := by obtain ⟨A', c', e, h1, _⟩ := H.out; cases e; exact List.eq_nil_of_length_eq_zero (by omega)
  subst hx
  have he : ∀ w : World, (binOp .eql 52 (.slice none 0 0) (.slice none 0 0)).run Tryz.prog w = .ok (.bool true) w := fun _ => rfl
  go_enter Tryz.func97, Tryz.ntmps97
  go_wp2_with fail
  go_ret
  exact ⟨_, rfl, ListOwn.nil_, Below.refl _ _⟩
 | some a =>
  obtain ⟨i0, hi, hz0, hz1, hz2⟩ := info_parts infoFlank
  have I0 := Lib.hid hi
  have I1 := Lib.hid hz0
  have I2 := Lib.hid hz1
  have I3 := Lib.hid hz2
  obtain ⟨n, hn2⟩ : ∃ n, n = l.length := ⟨_, rfl⟩
  have HN := Lib.hid hn2
  have HA : Hid (JoinsIn w w.heap.size (.slice (some a) n cap) l) := Lib.hid (by rw [hn2]; exact H.out)
  rw [← hn2]
  have he : ∀ w : World, (binOp .eql 52 (.slice (some a) n cap) (.slice none 0 0)).run Tryz.prog w = .ok (.bool false) w := fun _ => rfl
  have hq0 := heap_alloc_self w (.cells #[] 64)
  have hqb := below_new w (.cells #[] 64)
  obtain ⟨yss, hy1, hy2, hy3, hy4, hy5, hy6, hy7⟩ := ((HA.out.below joinR hqb).more joinR hqb.size).cells (by omega) joinR_full joinR_cells
  have Y1 := Lib.hid hy1
  have Y2 := Lib.hid hy2
  have Y3 := Lib.hid hy3
  have Y4 := Lib.hid hy4
  have Y6 := Lib.hid hy6
  have Y7 := Lib.hid hy7
  have YL : Hid (yss.flatten.length = n * 2) := Lib.hid (by rw [flat_length _ hy2, hy1, HN.out])
  have Q0 := Lib.hid hq0
  have QB := Lib.hid hqb
  have NL : Hid (n ≤ 1000) := Lib.hid (by rw [HN.out]; exact HLEN.out)
  clear hi hz0 hz1 hz2 hn hl hn2 H hy1 hy2 hy3 hy4 hy5 hy6 hy7 hq0 hqb
  go_enter Tryz.func97, Tryz.ntmps97
  go_wp2_with ((with_reducible show wpList _ _ _ (⟨some 7, _, _, _, _, _⟩ :: _) _ _); refine wpList_append_list rfl (.tmp 5) (.tmp 6) _ rfl Tryz.underlying52 I0.out I1.out rfl I2.out (by decide) I3.out (by decide) rfl (base := w.heap.size) (n := 0) (ys := []) ⟨rfl, .inr ⟨_, _, _, rfl, Nat.le_refl _, Q0.out, Nat.zero_le _, Nat.zero_le _, rfl, rfl⟩⟩ rfl YL.out Y4.out Y7.out Y6.out (by have := NL.out; omega) QB.out.size ?_; intro v1 w1 hown1 hgrow1)
  go_ret
  rw [Nat.zero_add, List.nil_append] at hown1
  have hb1 : Below w.heap.size w w1 := QB.out.grown hgrow1 (by simp) (fun k hk => by cases hk; exact Nat.le_refl _)
  exact ⟨_, rfl, ⟨yss, by rw [← HN.out]; exact hown1, Y1.out, by rw [← HN.out]; have := NL.out; unfold maxLen; omega, Y2.out, fun j ys x h1 h2 => Y3.out j ys x h1 h2⟩, hb1⟩

set_option maxHeartbeats 8000000 in
theorem twinroute_any (y : Value) (r : Rt) (w : World) (h' : RouteV w w.heap.size y r) (hl1 : r.path.length ≤ 1000) (hl2 : r.over.length ≤ 1000) (hl3 : r.flanks.length ≤ 1000) :
  Calls Tryz.prog 58 #[y] w fun e w' => ∃ u3 u4 u5, e = .returned (.agg #[.int .i64 r.id, .int .i64 r.entry, .int .i64 r.exit, u3, u4, u5, .int .i64 r.timer]) ∧ RtOwn w' w.heap.size u3 u4 u5 r ∧ Below w.heap.size w w' := by
 obtain ⟨z3, z4, z5, rfl, hrt⟩ := h'
 have HRT0 := Lib.hid hrt
 obtain ⟨C3, e3, rfl, hdl3, hdm3⟩ := hrt.path.slice
 obtain ⟨C4, e4, rfl, hdl4, hdm4⟩ := hrt.over.slice
 obtain ⟨C5, e5, rfl, hdl5, hdm5⟩ := hrt.flanks.slice
 unfold maxLen at hdm3 hdm4 hdm5
 obtain ⟨l3, hl3⟩ : ∃ n, n = r.path.length := ⟨_, rfl⟩
 obtain ⟨l4, hl4⟩ : ∃ n, n = r.over.length := ⟨_, rfl⟩
 obtain ⟨l5, hl5⟩ : ∃ n, n = r.flanks.length := ⟨_, rfl⟩
 have hk3 : l3 ≤ 9223372036854775807 := by omega
 have hk4 : l4 ≤ 9223372036854775807 := by omega
 have hk5 : l5 ≤ 9223372036854775807 := by omega
 have HRT : Hid (RtIn w w.heap.size (.slice C3 l3 e3) (.slice C4 l4 e4) (.slice C5 l5 e5) r) := Lib.hid (by rw [hl3, hl4, hl5]; exact HRT0.out)
 have HL : Hid (l3 = r.path.length ∧ l4 = r.over.length ∧ l5 = r.flanks.length) := Lib.hid ⟨hl3, hl4, hl5⟩
 rw [← hl3, ← hl4, ← hl5]
 clear hl3 hl4 hl5 HRT0 hrt hdl3 hdm3 hdl4 hdm4 hdl5 hdm5
 have HB3 := Lib.hid hl1
 have HB4 := Lib.hid hl2
 have HB5 := Lib.hid hl3
 have hq := two_boxes w (.cells #[.int .i64 r.id, .int .i64 r.entry, .int .i64 r.exit, .slice C3 l3 e3, .slice C4 l4 e4, .slice C5 l5 e5, .int .i64 r.timer] 54) (.cells #[.int .i64 0, .int .i64 0, .int .i64 0, .slice none 0 0, .slice none 0 0, .slice none 0 0, .int .i64 0] 54)
 go_enter Tryz.func58, Tryz.ntmps58
 go_upto_region 1 with fail
 have hqs : ((w.alloc (.cells #[.int .i64 r.id, .int .i64 r.entry, .int .i64 r.exit, .slice C3 l3 e3, .slice C4 l4 e4, .slice C5 l5 e5, .int .i64 r.timer] 54)).alloc (.cells #[.int .i64 0, .int .i64 0, .int .i64 0, .slice none 0 0, .slice none 0 0, .slice none 0 0, .int .i64 0] 54)).heap.size = w.heap.size + 2 := by simp
 generalize (w.alloc (.cells #[.int .i64 r.id, .int .i64 r.entry, .int .i64 r.exit, .slice C3 l3 e3, .slice C4 l4 e4, .slice C5 l5 e5, .int .i64 r.timer] 54)).alloc (.cells #[.int .i64 0, .int .i64 0, .int .i64 0, .slice none 0 0, .slice none 0 0, .slice none 0 0, .int .i64 0] 54) = q at hq hqs ⊢
 obtain ⟨q0, q1, qb⟩ := hq
 have X1 := Lib.hid q0
 have X2 := Lib.hid q1
 have BQ := Lib.hid qb
 have QS : Hid (w.heap.size + 2 ≤ q.heap.size) := Lib.hid (by omega)
 clear q0 q1 qb hqs hl1 hl2 hl3
 obtain ⟨k0, k1, k2, k3, k4, k5, k6⟩ := cell7_of X1.out
 go_wp2_with fail
 refine (clone_int _ r.path q ((HRT.out.path.below intR BQ.out).more intR BQ.out.size) HB3.out).mono ?_
 rintro e w3 ⟨u, rfl, hu, b3⟩
 obtain ⟨B3, d3, rfl⟩ := hu.slice
 rw [← HL.out.1] at hu ⊢
 have hg3 := grown_setK w3 w.heap.size 3 (.slice B3 l3 d3)
 have Z1 := (b3.block _ (heap_lt X1.out)).trans X1.out
 have Z2 := (b3.block _ (heap_lt X2.out)).trans X2.out
 have f2 := frozen2_of Z1 3
 have t1 : (w3.setCell ⟨w.heap.size, 3, none⟩ (.slice B3 l3 d3)).heap[w.heap.size]? = some (.cells #[.int .i64 r.id, .int .i64 r.entry, .int .i64 r.exit, .slice B3 l3 d3, .slice C4 l4 e4, .slice C5 l5 e5, .int .i64 r.timer] 54 (0, 0)) := heap_setK (k := 3) Z1 _
 have t2 := (heap_setFar w3 w.heap.size 3 (w.heap.size + 1) (.slice B3 l3 d3) (by omega)).trans Z2
 have tb := below_set (BQ.out.trans (b3.mono BQ.out.size)) (Nat.le_refl _) 3 (.slice B3 l3 d3)
 have ts : w.heap.size + 2 ≤ (w3.setCell ⟨w.heap.size, 3, none⟩ (.slice B3 l3 d3)).heap.size := by have := b3.size; have := hg3.size; have := QS.out; omega
 have tO3 : IntsOwn (w3.setCell ⟨w.heap.size, 3, none⟩ (.slice B3 l3 d3)) (w.heap.size + 2) (.slice B3 l3 d3) r.path := own_kept (R := IntR) intF (hu.mono QS.out) hg3 (fun k hk => by have := own_lo hu k hk; have := QS.out; omega)
 obtain ⟨q3, hq3⟩ : ∃ x, x = w3.setCell ⟨w.heap.size, 3, none⟩ (.slice B3 l3 d3) := ⟨_, rfl⟩
 rw [← hq3] at t1 t2 tb ts tO3
 have HQ3 := Lib.hid hq3
 clear X1 X2 BQ QS hu b3 hg3 hq3 Z2 k0 k1 k2 k3 k4 k5 k6 
 have X1 := Lib.hid t1
 have X2 := Lib.hid t2
 have BQ := Lib.hid tb
 have QS := Lib.hid ts
 have MO3 := Lib.hid tO3
 obtain ⟨k0, k1, k2, k3, k4, k5, k6⟩ := cell7_of Z1
 clear t1 t2 tb ts tO3
 go_upto_region 2 with fail
 rw [← HQ3.out]
 clear HQ3 Z1 f2 k0 k1 k2 k3 k4 k5 k6
 obtain ⟨k0, k1, k2, k3, k4, k5, k6⟩ := cell7_of X1.out
 go_wp2_with fail
 refine (clone_int _ r.over q3 ((HRT.out.over.below intR BQ.out).more intR BQ.out.size) HB4.out).mono ?_
 rintro e w4 ⟨u, rfl, hu, b3⟩
 obtain ⟨B4, d4, rfl⟩ := hu.slice
 rw [← HL.out.2.1] at hu ⊢
 have hg3 := grown_setK w4 w.heap.size 4 (.slice B4 l4 d4)
 have Z1 := (b3.block _ (heap_lt X1.out)).trans X1.out
 have Z2 := (b3.block _ (heap_lt X2.out)).trans X2.out
 have f2 := frozen2_of Z1 4
 have t1 : (w4.setCell ⟨w.heap.size, 4, none⟩ (.slice B4 l4 d4)).heap[w.heap.size]? = some (.cells #[.int .i64 r.id, .int .i64 r.entry, .int .i64 r.exit, .slice B3 l3 d3, .slice B4 l4 d4, .slice C5 l5 e5, .int .i64 r.timer] 54 (0, 0)) := heap_setK (k := 4) Z1 _
 have t2 := (heap_setFar w4 w.heap.size 4 (w.heap.size + 1) (.slice B4 l4 d4) (by omega)).trans Z2
 have tb := below_set (BQ.out.trans (b3.mono BQ.out.size)) (Nat.le_refl _) 4 (.slice B4 l4 d4)
 have ts : w.heap.size + 2 ≤ (w4.setCell ⟨w.heap.size, 4, none⟩ (.slice B4 l4 d4)).heap.size := by have := b3.size; have := hg3.size; have := QS.out; omega
 have tO4 : IntsOwn (w4.setCell ⟨w.heap.size, 4, none⟩ (.slice B4 l4 d4)) (w.heap.size + 2) (.slice B4 l4 d4) r.over := own_kept (R := IntR) intF (hu.mono QS.out) hg3 (fun k hk => by have := own_lo hu k hk; have := QS.out; omega)
 have tO3 := own_kept (R := IntR) intF (MO3.out.below intR b3) hg3 (fun k hk => by have := own_lo MO3.out k hk; omega)
 obtain ⟨q4, hq3⟩ : ∃ x, x = w4.setCell ⟨w.heap.size, 4, none⟩ (.slice B4 l4 d4) := ⟨_, rfl⟩
 rw [← hq3] at t1 t2 tb ts tO3 tO4
 have HQ3 := Lib.hid hq3
 clear X1 X2 BQ QS hu b3 hg3 hq3 Z2 k0 k1 k2 k3 k4 k5 k6 MO3
 have X1 := Lib.hid t1
 have X2 := Lib.hid t2
 have BQ := Lib.hid tb
 have QS := Lib.hid ts
 have MO3 := Lib.hid tO3
 have MO4 := Lib.hid tO4
 obtain ⟨k0, k1, k2, k3, k4, k5, k6⟩ := cell7_of Z1
 clear t1 t2 tb ts tO3 tO4
 go_upto_region 3 with fail
 rw [← HQ3.out]
 clear HQ3 Z1 f2 k0 k1 k2 k3 k4 k5 k6
 obtain ⟨k0, k1, k2, k3, k4, k5, k6⟩ := cell7_of X1.out
 go_wp2_with fail
 refine (clone_fl _ r.flanks q4 ((HRT.out.flanks.below joinR BQ.out).more joinR BQ.out.size) HB5.out).mono ?_
 rintro e w5 ⟨u, rfl, hu, b3⟩
 obtain ⟨B5, d5, rfl⟩ := hu.slice
 rw [← HL.out.2.2] at hu ⊢
 have hg3 := grown_setK w5 w.heap.size 5 (.slice B5 l5 d5)
 have Z1 := (b3.block _ (heap_lt X1.out)).trans X1.out
 have Z2 := (b3.block _ (heap_lt X2.out)).trans X2.out
 have f2 := frozen2_of Z1 5
 have t1 : (w5.setCell ⟨w.heap.size, 5, none⟩ (.slice B5 l5 d5)).heap[w.heap.size]? = some (.cells #[.int .i64 r.id, .int .i64 r.entry, .int .i64 r.exit, .slice B3 l3 d3, .slice B4 l4 d4, .slice B5 l5 d5, .int .i64 r.timer] 54 (0, 0)) := heap_setK (k := 5) Z1 _
 have t2 := (heap_setFar w5 w.heap.size 5 (w.heap.size + 1) (.slice B5 l5 d5) (by omega)).trans Z2
 have tb := below_set (BQ.out.trans (b3.mono BQ.out.size)) (Nat.le_refl _) 5 (.slice B5 l5 d5)
 have ts : w.heap.size + 2 ≤ (w5.setCell ⟨w.heap.size, 5, none⟩ (.slice B5 l5 d5)).heap.size := by have := b3.size; have := hg3.size; have := QS.out; omega
 have tO5 : FlanksOwn (w5.setCell ⟨w.heap.size, 5, none⟩ (.slice B5 l5 d5)) (w.heap.size + 2) (.slice B5 l5 d5) r.flanks := own_kept (R := JoinR) joinF (hu.mono QS.out) hg3 (fun k hk => by have := own_lo hu k hk; have := QS.out; omega)
 have tO3 := own_kept (R := IntR) intF (MO3.out.below intR b3) hg3 (fun k hk => by have := own_lo MO3.out k hk; omega)
 have tO4 := own_kept (R := IntR) intF (MO4.out.below intR b3) hg3 (fun k hk => by have := own_lo MO4.out k hk; omega)
 obtain ⟨q5, hq3⟩ : ∃ x, x = w5.setCell ⟨w.heap.size, 5, none⟩ (.slice B5 l5 d5) := ⟨_, rfl⟩
 rw [← hq3] at t1 t2 tb ts tO3 tO4 tO5
 have HQ3 := Lib.hid hq3
 clear X1 X2 BQ QS hu b3 hg3 hq3 Z2 k0 k1 k2 k3 k4 k5 k6 MO3 MO4
 have X1 := Lib.hid t1
 have X2 := Lib.hid t2
 have BQ := Lib.hid tb
 have QS := Lib.hid ts
 have MO3 := Lib.hid tO3
 have MO4 := Lib.hid tO4
 have MO5 := Lib.hid tO5
 obtain ⟨k0, k1, k2, k3, k4, k5, k6⟩ := cell7_of Z1
 clear t1 t2 tb ts tO3 tO4 tO5
 go_upto_region 4 with fail
 rw [← HQ3.out]
 clear HQ3 Z1 f2 k0 k1 k2 k3 k4 k5 k6
 obtain ⟨k0, k1, k2, k3, k4, k5, k6⟩ := cell7_of X1.out
 go_wp2_with ((with_reducible show wpList _ _ _ (⟨none, _, _, _, _, _⟩ :: _) _ _); refine wpList_store_rowS rfl _ (.tmp 2) (.tmp 15) rfl (w.heap.size + 1) rfl (c' := #[.int .i64 r.id, .int .i64 r.entry, .int .i64 r.exit, .slice B3 l3 d3, .slice B4 l4 d4, .slice B5 l5 d5, .int .i64 r.timer]) rfl X2.out infoRoute7 rfl (by simp [Value.oneCell']) ?_)
 refine bodyPost_ret (results_cell_row rfl _ _ (w.heap.size + 1) 54 #[.int .i64 r.id, .int .i64 r.entry, .int .i64 r.exit, .slice B3 l3 d3, .slice B4 l4 d4, .slice B5 l5 d5, .int .i64 r.timer] (0, 0) _ rfl (setRow_heap _ _ _ _ _ _ X2.out) Tryz.underlying54 rfl infoRoute7) rfl ⟨_, _, _, rfl, ?_, below_setRow BQ.out (Nat.le_succ _) _⟩
 have hg := grownBy_setRow q5 (w.heap.size + 1) #[.int .i64 r.id, .int .i64 r.entry, .int .i64 r.exit, .slice B3 l3 d3, .slice B4 l4 d4, .slice B5 l5 d5, .int .i64 r.timer]
 exact ⟨(own_kept (R := IntR) intF MO3.out hg (fun k hk => by have := own_lo MO3.out k hk; omega)).mono (by omega), (own_kept (R := IntR) intF MO4.out hg (fun k hk => by have := own_lo MO4.out k hk; omega)).mono (by omega), (own_kept (R := JoinR) joinF MO5.out hg (fun k hk => by have := own_lo MO5.out k hk; omega)).mono (by omega)⟩

end Go.Proofs.YtneeocnjfnneoaaGreat
