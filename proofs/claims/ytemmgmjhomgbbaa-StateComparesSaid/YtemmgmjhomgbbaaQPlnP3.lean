/-
 The program's package plan: copies, Twin, found, Point, Signal, Route, Stands.
 Conditions: none.
-/
import Derived.Test.YtemmgmjhomgbbaaQPlnP1
import Derived.Test.YtemmgmjhomgbbaaQGTrkPH
import Derived.Test.YtemmgmjhomgbbaaQGPlnRefD
import Derived.Test.YtemmgmjhomgbbaaQPlnP2
set_option linter.unusedVariables false
set_option linter.unusedSimpArgs false
set_option maxRecDepth 100000
namespace Go.Proofs.Ytemmgmjhomgbbaa
open Go.RowKit

theorem clone_int (v : Value) (l : List Int) (w : World) (h : IntsIn w w.heap.size v l) (hl : l.length ≤ 1000) :
  Calls Try.prog 86 #[v] w fun e w' => ∃ u, e = .returned u ∧ IntsOwn w' w.heap.size u l ∧ Below w.heap.size w w' := by
 have H := Lib.hid h
 have HLEN := Lib.hid hl
 obtain ⟨A, cap, rfl, -, -, hn, -⟩ := h
 cases A with
 | none =>
  obtain rfl := hn rfl
  have hx : l = [] := by obtain ⟨A', c', e, h1, _⟩ := H.out; cases e; exact List.eq_nil_of_length_eq_zero (by omega)
  subst hx
  have he : ∀ w : World, (binOp .eql 50 (.slice none 0 0) (.slice none 0 0)).run Try.prog w = .ok (.bool true) w := fun _ => rfl
  go_enter Try.func86, Try.ntmps86
  go_wp2_with fail
  go_ret
  exact ⟨_, rfl, ListOwn.nil_, Below.refl _ _⟩
 | some a =>
  obtain ⟨i0, hi, hz0, hz1, hz2⟩ := info_parts infoInt
  have I0 := Lib.hid hi
  have I1 := Lib.hid hz0
  have I2 := Lib.hid hz1
  have I3 := Lib.hid hz2
  obtain ⟨n, hn2⟩ : ∃ n, n = l.length := ⟨_, rfl⟩
  have HN := Lib.hid hn2
  have HA : Hid (IntsIn w w.heap.size (.slice (some a) n cap) l) := Lib.hid (by rw [hn2]; exact H.out)
  rw [← hn2]
  have he : ∀ w : World, (binOp .eql 50 (.slice (some a) n cap) (.slice none 0 0)).run Try.prog w = .ok (.bool false) w := fun _ => rfl
  have hq0 := heap_alloc_self w (.cells #[] 3)
  have hqb := below_new w (.cells #[] 3)
  obtain ⟨yss, hy1, hy2, hy3, hy4, hy5, hy6, hy7⟩ := ((HA.out.below intR hqb).more intR hqb.size).cells (by omega) intR_full intR_cells
  have Y1 := Lib.hid hy1
  have Y2 := Lib.hid hy2
  have Y3 := Lib.hid hy3
  have Y4 := Lib.hid hy4
  have Y6 := Lib.hid hy6
  have Y7 := Lib.hid hy7
  have YL : Hid (yss.flatten.length = n * 1) := Lib.hid (by rw [flat_length _ hy2, hy1, HN.out])
  have Q0 := Lib.hid hq0
  have QB := Lib.hid hqb
  have NL : Hid (n ≤ 1000) := Lib.hid (by rw [HN.out]; exact HLEN.out)
  clear hi hz0 hz1 hz2 hn hl hn2 H hy1 hy2 hy3 hy4 hy5 hy6 hy7 hq0 hqb
  go_enter Try.func86, Try.ntmps86
  go_wp2_with ((with_reducible show wpList _ _ _ (⟨some 7, _, _, _, _, _⟩ :: _) _ _); refine wpList_append_list rfl (.tmp 5) (.tmp 6) _ rfl Try.underlying50 I0.out I1.out rfl I2.out (by decide) I3.out (by decide) rfl (base := w.heap.size) (n := 0) (ys := []) ⟨rfl, .inr ⟨_, _, _, rfl, Nat.le_refl _, Q0.out, Nat.zero_le _, Nat.zero_le _, rfl, rfl⟩⟩ rfl YL.out Y4.out Y7.out Y6.out (by have := NL.out; omega) QB.out.size ?_; intro v1 w1 hown1 hgrow1)
  go_ret
  rw [Nat.zero_add, List.nil_append] at hown1
  have hb1 : Below w.heap.size w w1 := QB.out.grown hgrow1 (by simp) (fun k hk => by cases hk; exact Nat.le_refl _)
  exact ⟨_, rfl, ⟨yss, by rw [← HN.out]; exact hown1, Y1.out, by rw [← HN.out]; have := NL.out; unfold maxLen; omega, Y2.out, fun j ys x h1 h2 => Y3.out j ys x h1 h2⟩, hb1⟩

theorem clone_fl (v : Value) (l : List Jn) (w : World) (h : JoinsIn w w.heap.size v l) (hl : l.length ≤ 1000) :
  Calls Try.prog 91 #[v] w fun e w' => ∃ u, e = .returned u ∧ FlanksOwn w' w.heap.size u l ∧ Below w.heap.size w w' := by
 have H := Lib.hid h
 have HLEN := Lib.hid hl
 obtain ⟨A, cap, rfl, -, -, hn, -⟩ := h
 cases A with
 | none =>
  obtain rfl := hn rfl
  have hx : l = [] := by obtain ⟨A', c', e, h1, _⟩ := H.out; cases e; exact List.eq_nil_of_length_eq_zero (by omega)
  subst hx
  have he : ∀ w : World, (binOp .eql 68 (.slice none 0 0) (.slice none 0 0)).run Try.prog w = .ok (.bool true) w := fun _ => rfl
  go_enter Try.func91, Try.ntmps91
  go_wp2_with fail
  go_ret
  exact ⟨_, rfl, ListOwn.nil_, Below.refl _ _⟩
 | some a =>
  obtain ⟨i0, hi, hz0, hz1, hz2⟩ := info_parts infoFlank
  have I0 := Lib.hid hi
  have I1 := Lib.hid hz0
  have I2 := Lib.hid hz1
  have I3 := Lib.hid hz2
  obtain ⟨n, hn2⟩ : ∃ n, n = l.length := ⟨_, rfl⟩
  have HN := Lib.hid hn2
  have HA : Hid (JoinsIn w w.heap.size (.slice (some a) n cap) l) := Lib.hid (by rw [hn2]; exact H.out)
  rw [← hn2]
  have he : ∀ w : World, (binOp .eql 68 (.slice (some a) n cap) (.slice none 0 0)).run Try.prog w = .ok (.bool false) w := fun _ => rfl
  have hq0 := heap_alloc_self w (.cells #[] 125)
  have hqb := below_new w (.cells #[] 125)
  obtain ⟨yss, hy1, hy2, hy3, hy4, hy5, hy6, hy7⟩ := ((HA.out.below joinR hqb).more joinR hqb.size).cells (by omega) joinR_full joinR_cells
  have Y1 := Lib.hid hy1
  have Y2 := Lib.hid hy2
  have Y3 := Lib.hid hy3
  have Y4 := Lib.hid hy4
  have Y6 := Lib.hid hy6
  have Y7 := Lib.hid hy7
  have YL : Hid (yss.flatten.length = n * 2) := Lib.hid (by rw [flat_length _ hy2, hy1, HN.out])
  have Q0 := Lib.hid hq0
  have QB := Lib.hid hqb
  have NL : Hid (n ≤ 1000) := Lib.hid (by rw [HN.out]; exact HLEN.out)
  clear hi hz0 hz1 hz2 hn hl hn2 H hy1 hy2 hy3 hy4 hy5 hy6 hy7 hq0 hqb
  go_enter Try.func91, Try.ntmps91
  go_wp2_with ((with_reducible show wpList _ _ _ (⟨some 7, _, _, _, _, _⟩ :: _) _ _); refine wpList_append_list rfl (.tmp 5) (.tmp 6) _ rfl Try.underlying68 I0.out I1.out rfl I2.out (by decide) I3.out (by decide) rfl (base := w.heap.size) (n := 0) (ys := []) ⟨rfl, .inr ⟨_, _, _, rfl, Nat.le_refl _, Q0.out, Nat.zero_le _, Nat.zero_le _, rfl, rfl⟩⟩ rfl YL.out Y4.out Y7.out Y6.out (by have := NL.out; omega) QB.out.size ?_; intro v1 w1 hown1 hgrow1)
  go_ret
  rw [Nat.zero_add, List.nil_append] at hown1
  have hb1 : Below w.heap.size w w1 := QB.out.grown hgrow1 (by simp) (fun k hk => by cases hk; exact Nat.le_refl _)
  exact ⟨_, rfl, ⟨yss, by rw [← HN.out]; exact hown1, Y1.out, by rw [← HN.out]; have := NL.out; unfold maxLen; omega, Y2.out, fun j ys x h1 h2 => Y3.out j ys x h1 h2⟩, hb1⟩

set_option maxHeartbeats 8000000 in
theorem twinroute_any (y : Value) (r : Rt) (w : World) (h' : RouteV w w.heap.size y r) (hl1 : r.path.length ≤ 1000) (hl2 : r.over.length ≤ 1000) (hl3 : r.flanks.length ≤ 1000) :
  Calls Try.prog 72 #[y] w fun e w' => ∃ u3 u4 u5, e = .returned (.agg #[.int .i64 r.id, .int .i64 r.entry, .int .i64 r.exit, u3, u4, u5, .int .i64 r.timer]) ∧ RtOwn w' w.heap.size u3 u4 u5 r ∧ Below w.heap.size w w' := by
 obtain ⟨z3, z4, z5, rfl, hrt⟩ := h'
 have HRT0 := Lib.hid hrt
 obtain ⟨C3, e3, rfl, hdl3, hdm3⟩ := hrt.path.slice
 obtain ⟨C4, e4, rfl, hdl4, hdm4⟩ := hrt.over.slice
 obtain ⟨C5, e5, rfl, hdl5, hdm5⟩ := hrt.flanks.slice
 unfold maxLen at hdm3 hdm4 hdm5
 obtain ⟨l3, hl3⟩ : ∃ n, n = r.path.length := ⟨_, rfl⟩
 obtain ⟨l4, hl4⟩ : ∃ n, n = r.over.length := ⟨_, rfl⟩
 obtain ⟨l5, hl5⟩ : ∃ n, n = r.flanks.length := ⟨_, rfl⟩
 have hk3 : l3 ≤ 9223372036854775807 := by omega
 have hk4 : l4 ≤ 9223372036854775807 := by omega
 have hk5 : l5 ≤ 9223372036854775807 := by omega
 have HRT : Hid (RtIn w w.heap.size (.slice C3 l3 e3) (.slice C4 l4 e4) (.slice C5 l5 e5) r) := Lib.hid (by rw [hl3, hl4, hl5]; exact HRT0.out)
 have HL : Hid (l3 = r.path.length ∧ l4 = r.over.length ∧ l5 = r.flanks.length) := Lib.hid ⟨hl3, hl4, hl5⟩
 rw [← hl3, ← hl4, ← hl5]
 clear hl3 hl4 hl5 HRT0 hrt hdl3 hdm3 hdl4 hdm4 hdl5 hdm5
 have HB3 := Lib.hid hl1
 have HB4 := Lib.hid hl2
 have HB5 := Lib.hid hl3
 have hq := two_boxes w (.cells #[.int .i64 r.id, .int .i64 r.entry, .int .i64 r.exit, .slice C3 l3 e3, .slice C4 l4 e4, .slice C5 l5 e5, .int .i64 r.timer] 70) (.cells #[.int .i64 0, .int .i64 0, .int .i64 0, .slice none 0 0, .slice none 0 0, .slice none 0 0, .int .i64 0] 70)
 go_enter Try.func72, Try.ntmps72
 go_upto_region 1 with fail
 have hqs : ((w.alloc (.cells #[.int .i64 r.id, .int .i64 r.entry, .int .i64 r.exit, .slice C3 l3 e3, .slice C4 l4 e4, .slice C5 l5 e5, .int .i64 r.timer] 70)).alloc (.cells #[.int .i64 0, .int .i64 0, .int .i64 0, .slice none 0 0, .slice none 0 0, .slice none 0 0, .int .i64 0] 70)).heap.size = w.heap.size + 2 := by simp
 generalize (w.alloc (.cells #[.int .i64 r.id, .int .i64 r.entry, .int .i64 r.exit, .slice C3 l3 e3, .slice C4 l4 e4, .slice C5 l5 e5, .int .i64 r.timer] 70)).alloc (.cells #[.int .i64 0, .int .i64 0, .int .i64 0, .slice none 0 0, .slice none 0 0, .slice none 0 0, .int .i64 0] 70) = q at hq hqs ⊢
 obtain ⟨q0, q1, qb⟩ := hq
 have X1 := Lib.hid q0
 have X2 := Lib.hid q1
 have BQ := Lib.hid qb
 have QS : Hid (w.heap.size + 2 ≤ q.heap.size) := Lib.hid (by omega)
 clear q0 q1 qb hqs hl1 hl2 hl3
 obtain ⟨k0, k1, k2, k3, k4, k5, k6⟩ := cell7_of X1.out
 go_wp2_with fail
 refine (clone_int _ r.path q ((HRT.out.path.below intR BQ.out).more intR BQ.out.size) HB3.out).mono ?_
 rintro e w3 ⟨u, rfl, hu, b3⟩
 obtain ⟨B3, d3, rfl⟩ := hu.slice
 rw [← HL.out.1] at hu ⊢
 have hg3 := grown_setK w3 w.heap.size 3 (.slice B3 l3 d3)
 have Z1 := (b3.block _ (heap_lt X1.out)).trans X1.out
 have Z2 := (b3.block _ (heap_lt X2.out)).trans X2.out
 have f2 := frozen2_of Z1 3
 have t1 : (w3.setCell ⟨w.heap.size, 3, none⟩ (.slice B3 l3 d3)).heap[w.heap.size]? = some (.cells #[.int .i64 r.id, .int .i64 r.entry, .int .i64 r.exit, .slice B3 l3 d3, .slice C4 l4 e4, .slice C5 l5 e5, .int .i64 r.timer] 70 (0, 0)) := heap_setK (k := 3) Z1 _
 have t2 := (heap_setFar w3 w.heap.size 3 (w.heap.size + 1) (.slice B3 l3 d3) (by omega)).trans Z2
 have tb := below_set (BQ.out.trans (b3.mono BQ.out.size)) (Nat.le_refl _) 3 (.slice B3 l3 d3)
 have ts : w.heap.size + 2 ≤ (w3.setCell ⟨w.heap.size, 3, none⟩ (.slice B3 l3 d3)).heap.size := by have := b3.size; have := hg3.size; have := QS.out; omega
 have tO3 : IntsOwn (w3.setCell ⟨w.heap.size, 3, none⟩ (.slice B3 l3 d3)) (w.heap.size + 2) (.slice B3 l3 d3) r.path := own_kept (R := IntR) intF (hu.mono QS.out) hg3 (fun k hk => by have := own_lo hu k hk; have := QS.out; omega)
 obtain ⟨q3, hq3⟩ : ∃ x, x = w3.setCell ⟨w.heap.size, 3, none⟩ (.slice B3 l3 d3) := ⟨_, rfl⟩
 rw [← hq3] at t1 t2 tb ts tO3
 have HQ3 := Lib.hid hq3
 clear X1 X2 BQ QS hu b3 hg3 hq3 Z2 k0 k1 k2 k3 k4 k5 k6 
 have X1 := Lib.hid t1
 have X2 := Lib.hid t2
 have BQ := Lib.hid tb
 have QS := Lib.hid ts
 have MO3 := Lib.hid tO3
 obtain ⟨k0, k1, k2, k3, k4, k5, k6⟩ := cell7_of Z1
 clear t1 t2 tb ts tO3
 go_upto_region 2 with fail
 rw [← HQ3.out]
 clear HQ3 Z1 f2 k0 k1 k2 k3 k4 k5 k6
 obtain ⟨k0, k1, k2, k3, k4, k5, k6⟩ := cell7_of X1.out
 go_wp2_with fail
 refine (clone_int _ r.over q3 ((HRT.out.over.below intR BQ.out).more intR BQ.out.size) HB4.out).mono ?_
 rintro e w4 ⟨u, rfl, hu, b3⟩
 obtain ⟨B4, d4, rfl⟩ := hu.slice
 rw [← HL.out.2.1] at hu ⊢
 have hg3 := grown_setK w4 w.heap.size 4 (.slice B4 l4 d4)
 have Z1 := (b3.block _ (heap_lt X1.out)).trans X1.out
 have Z2 := (b3.block _ (heap_lt X2.out)).trans X2.out
 have f2 := frozen2_of Z1 4
 have t1 : (w4.setCell ⟨w.heap.size, 4, none⟩ (.slice B4 l4 d4)).heap[w.heap.size]? = some (.cells #[.int .i64 r.id, .int .i64 r.entry, .int .i64 r.exit, .slice B3 l3 d3, .slice B4 l4 d4, .slice C5 l5 e5, .int .i64 r.timer] 70 (0, 0)) := heap_setK (k := 4) Z1 _
 have t2 := (heap_setFar w4 w.heap.size 4 (w.heap.size + 1) (.slice B4 l4 d4) (by omega)).trans Z2
 have tb := below_set (BQ.out.trans (b3.mono BQ.out.size)) (Nat.le_refl _) 4 (.slice B4 l4 d4)
 have ts : w.heap.size + 2 ≤ (w4.setCell ⟨w.heap.size, 4, none⟩ (.slice B4 l4 d4)).heap.size := by have := b3.size; have := hg3.size; have := QS.out; omega
 have tO4 : IntsOwn (w4.setCell ⟨w.heap.size, 4, none⟩ (.slice B4 l4 d4)) (w.heap.size + 2) (.slice B4 l4 d4) r.over := own_kept (R := IntR) intF (hu.mono QS.out) hg3 (fun k hk => by have := own_lo hu k hk; have := QS.out; omega)
 have tO3 := own_kept (R := IntR) intF (MO3.out.below intR b3) hg3 (fun k hk => by have := own_lo MO3.out k hk; omega)
 obtain ⟨q4, hq3⟩ : ∃ x, x = w4.setCell ⟨w.heap.size, 4, none⟩ (.slice B4 l4 d4) := ⟨_, rfl⟩
 rw [← hq3] at t1 t2 tb ts tO3 tO4
 have HQ3 := Lib.hid hq3
 clear X1 X2 BQ QS hu b3 hg3 hq3 Z2 k0 k1 k2 k3 k4 k5 k6 MO3
 have X1 := Lib.hid t1
 have X2 := Lib.hid t2
 have BQ := Lib.hid tb
 have QS := Lib.hid ts
 have MO3 := Lib.hid tO3
 have MO4 := Lib.hid tO4
 obtain ⟨k0, k1, k2, k3, k4, k5, k6⟩ := cell7_of Z1
 clear t1 t2 tb ts tO3 tO4
 go_upto_region 3 with fail
 rw [← HQ3.out]
 clear HQ3 Z1 f2 k0 k1 k2 k3 k4 k5 k6
 obtain ⟨k0, k1, k2, k3, k4, k5, k6⟩ := cell7_of X1.out
 go_wp2_with fail
 refine (clone_fl _ r.flanks q4 ((HRT.out.flanks.below joinR BQ.out).more joinR BQ.out.size) HB5.out).mono ?_
 rintro e w5 ⟨u, rfl, hu, b3⟩
 obtain ⟨B5, d5, rfl⟩ := hu.slice
 rw [← HL.out.2.2] at hu ⊢
 have hg3 := grown_setK w5 w.heap.size 5 (.slice B5 l5 d5)
 have Z1 := (b3.block _ (heap_lt X1.out)).trans X1.out
 have Z2 := (b3.block _ (heap_lt X2.out)).trans X2.out
 have f2 := frozen2_of Z1 5
 have t1 : (w5.setCell ⟨w.heap.size, 5, none⟩ (.slice B5 l5 d5)).heap[w.heap.size]? = some (.cells #[.int .i64 r.id, .int .i64 r.entry, .int .i64 r.exit, .slice B3 l3 d3, .slice B4 l4 d4, .slice B5 l5 d5, .int .i64 r.timer] 70 (0, 0)) := heap_setK (k := 5) Z1 _
 have t2 := (heap_setFar w5 w.heap.size 5 (w.heap.size + 1) (.slice B5 l5 d5) (by omega)).trans Z2
 have tb := below_set (BQ.out.trans (b3.mono BQ.out.size)) (Nat.le_refl _) 5 (.slice B5 l5 d5)
 have ts : w.heap.size + 2 ≤ (w5.setCell ⟨w.heap.size, 5, none⟩ (.slice B5 l5 d5)).heap.size := by have := b3.size; have := hg3.size; have := QS.out; omega
 have tO5 : FlanksOwn (w5.setCell ⟨w.heap.size, 5, none⟩ (.slice B5 l5 d5)) (w.heap.size + 2) (.slice B5 l5 d5) r.flanks := own_kept (R := JoinR) joinF (hu.mono QS.out) hg3 (fun k hk => by have := own_lo hu k hk; have := QS.out; omega)
 have tO3 := own_kept (R := IntR) intF (MO3.out.below intR b3) hg3 (fun k hk => by have := own_lo MO3.out k hk; omega)
 have tO4 := own_kept (R := IntR) intF (MO4.out.below intR b3) hg3 (fun k hk => by have := own_lo MO4.out k hk; omega)
 obtain ⟨q5, hq3⟩ : ∃ x, x = w5.setCell ⟨w.heap.size, 5, none⟩ (.slice B5 l5 d5) := ⟨_, rfl⟩
 rw [← hq3] at t1 t2 tb ts tO3 tO4 tO5
 have HQ3 := Lib.hid hq3
 clear X1 X2 BQ QS hu b3 hg3 hq3 Z2 k0 k1 k2 k3 k4 k5 k6 MO3 MO4
 have X1 := Lib.hid t1
 have X2 := Lib.hid t2
 have BQ := Lib.hid tb
 have QS := Lib.hid ts
 have MO3 := Lib.hid tO3
 have MO4 := Lib.hid tO4
 have MO5 := Lib.hid tO5
 obtain ⟨k0, k1, k2, k3, k4, k5, k6⟩ := cell7_of Z1
 clear t1 t2 tb ts tO3 tO4 tO5
 go_upto_region 4 with fail
 rw [← HQ3.out]
 clear HQ3 Z1 f2 k0 k1 k2 k3 k4 k5 k6
 obtain ⟨k0, k1, k2, k3, k4, k5, k6⟩ := cell7_of X1.out
 go_wp2_with ((with_reducible show wpList _ _ _ (⟨none, _, _, _, _, _⟩ :: _) _ _); refine wpList_store_rowS rfl _ (.tmp 2) (.tmp 15) rfl (w.heap.size + 1) rfl (c' := #[.int .i64 r.id, .int .i64 r.entry, .int .i64 r.exit, .slice B3 l3 d3, .slice B4 l4 d4, .slice B5 l5 d5, .int .i64 r.timer]) rfl X2.out infoRoute7 rfl (by simp [Value.oneCell']) ?_)
 refine bodyPost_ret (results_cell_row rfl _ _ (w.heap.size + 1) 70 #[.int .i64 r.id, .int .i64 r.entry, .int .i64 r.exit, .slice B3 l3 d3, .slice B4 l4 d4, .slice B5 l5 d5, .int .i64 r.timer] (0, 0) _ rfl (setRow_heap _ _ _ _ _ _ X2.out) Try.underlying70 rfl infoRoute7) rfl ⟨_, _, _, rfl, ?_, below_setRow BQ.out (Nat.le_succ _) _⟩
 have hg := grownBy_setRow q5 (w.heap.size + 1) #[.int .i64 r.id, .int .i64 r.entry, .int .i64 r.exit, .slice B3 l3 d3, .slice B4 l4 d4, .slice B5 l5 d5, .int .i64 r.timer]
 exact ⟨(own_kept (R := IntR) intF MO3.out hg (fun k hk => by have := own_lo MO3.out k hk; omega)).mono (by omega), (own_kept (R := IntR) intF MO4.out hg (fun k hk => by have := own_lo MO4.out k hk; omega)).mono (by omega), (own_kept (R := JoinR) joinF MO5.out hg (fun k hk => by have := own_lo MO5.out k hk; omega)).mono (by omega)⟩



set_option maxHeartbeats 4000000 in
theorem find_rtB (v : Value) (l : List Rt) (id : Int) (w : World) (B : Nat) (hB : B ≤ w.heap.size) (h : RoutesIn w B v l) :
  Calls Try.prog 90 #[v, .int .i64 id] w fun e w' => (∃ x, e = .returned (.tuple #[x, .bool (findB kRt l id)]) ∧ RouteV w' B x (findV kRt l id zRt)) ∧ Below w.heap.size w w' := by
 have HBB := Lib.hid hB
 clear hB
 have H := Lib.hid h
 obtain ⟨A, c, rfl, hcl, hcm⟩ := h.slice
 have hml : l.length ≤ 9223372036854775807 := by unfold maxLen at hcm; omega
 obtain ⟨n, hn⟩ : ∃ n, n = l.length := ⟨_, rfl⟩
 have HN := Lib.hid hn
 have HA := Lib.hid (show RoutesIn w B (.slice A n c) l by rw [hn]; exact H.out)
 rw [← hn] at hml ⊢
 clear hn H hcl hcm h
 obtain ⟨q, hq⟩ : ∃ x, x = w.alloc (.cells #[.int .i64 0, .int .i64 0, .int .i64 0, .slice none 0 0, .slice none 0 0, .slice none 0 0, .int .i64 0] 70) := ⟨_, rfl⟩
 have x1 := heap_alloc_self w (.cells #[.int .i64 0, .int .i64 0, .int .i64 0, .slice none 0 0, .slice none 0 0, .slice none 0 0, .int .i64 0] 70)
 have b1 := below_new w (.cells #[.int .i64 0, .int .i64 0, .int .i64 0, .slice none 0 0, .slice none 0 0, .slice none 0 0, .int .i64 0] 70)
 rw [← hq] at x1 b1
 go_enter Try.func90, Try.ntmps90
 go_upto_region 1 with fail
 rw [← hq]
 have X1 := Lib.hid x1
 have B1 := Lib.hid b1
 clear x1 b1 hq
 go_wp2_with fail
 go_loopw [11] (fun s11 wr => ∃ i : Nat, i ≤ n ∧ s11 = .int .i64 i ∧ (∀ j (hj : j < i) (hl : j < l.length), kRt l[j] ≠ id) ∧ wr.heap[w.heap.size]? = some (.cells #[.int .i64 0, .int .i64 0, .int .i64 0, .slice none 0 0, .slice none 0 0, .slice none 0 0, .int .i64 0] 70 (0, 0)) ∧ Below w.heap.size w wr) (fun s11 _ => n - (intOf s11).toNat)
 case atStart => exact ⟨0, by omega, by go_num, fun j hj => absurd hj (by omega), X1.out, B1.out⟩
 case round =>
  obtain ⟨i, hi, rfl, hall, hx4, hb⟩ := hrel
  have HALL := Lib.hid hall
  have BW := Lib.hid hb
  have X4 := Lib.hid hx4
  clear hall hb hx4 X1 B1
  by_cases hlt : i < n
  ·have hlt' : (i : Int) < n := by omega
   have hir : i < l.length := by rw [← HN.out]; exact hlt
   obtain ⟨bk, off, rfl, hbk, hc0, hc1, hc2, hc6, u3, u4, u5, hc3, hc4, hc5, hr⟩ := (HA.out.below routeR (BW.out.mono HBB.out)).at hir
   obtain ⟨B3, d3, rfl, -, -⟩ := hr.path.slice
   obtain ⟨B4, d4, rfl, -, -⟩ := hr.over.slice
   obtain ⟨B5, d5, rfl, -, -⟩ := hr.flanks.slice
   obtain ⟨a, en, ex, lp, lo, lf, tm, hx⟩ : ∃ a en ex lp lo lf tm, l[i] = (⟨a, en, ex, lp, lo, lf, tm⟩ : Rt) := ⟨_, _, _, _, _, _, _, rfl⟩
   have HX := Lib.hid hx
   rw [hx] at hc0 hc1 hc2 hc3 hc4 hc5 hc6 hr
   dsimp only at hc0 hc1 hc2 hc3 hc4 hc5 hc6 hr
   obtain ⟨m3, e3⟩ : ∃ m, m = lp.length := ⟨_, rfl⟩
   obtain ⟨m4, e4⟩ : ∃ m, m = lo.length := ⟨_, rfl⟩
   obtain ⟨m5, e5⟩ : ∃ m, m = lf.length := ⟨_, rfl⟩
   rw [← e3] at hc3 hr
   rw [← e4] at hc4 hr
   rw [← e5] at hc5 hr
   have HR := Lib.hid hr
   have HM : Hid (m3 = lp.length ∧ m4 = lo.length ∧ m5 = lf.length) := Lib.hid ⟨e3, e4, e5⟩
   have hg0 : wr.cell? ⟨bk, off + i * 7, none⟩ = some (.int .i64 a) := hc0
   have hg1 : wr.cell? ⟨bk, off + i * 7 + 1, none⟩ = some (.int .i64 en) := hc1
   have hg2 : wr.cell? ⟨bk, off + i * 7 + 2, none⟩ = some (.int .i64 ex) := hc2
   have hg3 : wr.cell? ⟨bk, off + i * 7 + 3, none⟩ = some (.slice B3 m3 d3) := hc3
   have hg4 : wr.cell? ⟨bk, off + i * 7 + 4, none⟩ = some (.slice B4 m4 d4) := hc4
   have hg5 : wr.cell? ⟨bk, off + i * 7 + 5, none⟩ = some (.slice B5 m5 d5) := hc5
   have hg6 : wr.cell? ⟨bk, off + i * 7 + 6, none⟩ = some (.int .i64 tm) := hc6
   clear hc0 hc1 hc2 hc3 hc4 hc5 hc6 hx hbk hr e3 e4 e5
   obtain ⟨q2, hq2⟩ : ∃ x, x = wr.alloc (.cells #[.int .i64 a, .int .i64 en, .int .i64 ex, .slice B3 m3 d3, .slice B4 m4 d4, .slice B5 m5 d5, .int .i64 tm] 70) := ⟨_, rfl⟩
   have x1 := heap_alloc_self wr (.cells #[.int .i64 a, .int .i64 en, .int .i64 ex, .slice B3 m3 d3, .slice B4 m4 d4, .slice B5 m5 d5, .int .i64 tm] 70)
   have b1 := below_new wr (.cells #[.int .i64 a, .int .i64 en, .int .i64 ex, .slice B3 m3 d3, .slice B4 m4 d4, .slice B5 m5 d5, .int .i64 tm] 70)
   rw [← hq2] at x1 b1
   go_upto_region 4 with fail
   rw [← hq2]
   have X7 := Lib.hid x1
   have X47 := Lib.hid ((b1.block _ (heap_lt X4.out)).trans X4.out)
   have B1W := Lib.hid (b1.mono BW.out.size)
   have B1 := Lib.hid (BW.out.trans (b1.mono BW.out.size))
   generalize wr.heap.size = p1 at X7 ⊢
   clear x1 b1 hq2 hg0 hg1 hg2 hg3 hg4 hg5 hg6
   obtain ⟨k0, k1, k2, k3, k4, k5, k6⟩ := cell7_of X7.out
   have KX : Hid (kRt l[i] = a) := Lib.hid (by rw [HX.out])
   by_cases he : a = id
   ·have hd : (a == id) = true := by simpa using he
    have FY : Hid (findB kRt l id = true ∧ findV kRt l id zRt = l[i]) := Lib.hid (find_yes hir (KX.out.trans he) fun j hj => HALL.out j hj (by omega))
    rw [HX.out] at FY
    clear he
    go_upto_region 5 with ((with_reducible show Calls _ _ _ _ _); refine (number_rt a en ex tm B3 B4 B5 m3 m4 m5 d3 d4 d5 _).mono ?_; rintro e w2 ⟨rfl, b2⟩; have B2 := Lib.hid (B1.out.trans (b2.mono B1.out.size)); have B2W := Lib.hid (B1W.out.trans (b2.mono B1.out.size)); have X42 := Lib.hid ((b2.block _ (heap_lt X47.out)).trans X47.out); have X72 := Lib.hid ((b2.block _ (heap_lt X7.out)).trans X7.out); clear b2)
    clear k0 k1 k2 k3 k4 k5 k6
    obtain ⟨k0, k1, k2, k3, k4, k5, k6⟩ := cell7_of X72.out
    go_wp2_with ((with_reducible show wpList _ _ _ (⟨none, _, _, _, _, _⟩ :: _) _ _); refine wpList_store_rowS rfl _ (.tmp 4) (.tmp 19) rfl w.heap.size rfl (c' := #[.int .i64 a, .int .i64 en, .int .i64 ex, .slice B3 m3 d3, .slice B4 m4 d4, .slice B5 m5 d5, .int .i64 tm]) rfl X42.out infoRoute7 rfl (by simp [Value.oneCell']) ?_)
    refine bodyPost_ret (results_rowS_tmp (c := #[.int .i64 a, .int .i64 en, .int .i64 ex, .slice B3 m3 d3, .slice B4 m4 d4, .slice B5 m5 d5, .int .i64 tm]) rfl _ _ w.heap.size rfl (setRow_heap _ _ _ _ _ _ X42.out) Try.underlying70 infoRoute7 (.bool true) rfl) rfl ⟨⟨_, by rw [FY.out.1], ?_⟩, below_setRow B2.out (Nat.le_refl _) _⟩
    rw [FY.out.2]
    exact ⟨_, _, _, rfl, HR.out.below ((below_setRow B2W.out (Nat.le_refl _) _).mono HBB.out)⟩
   ·have hd : (a == id) = false := by simpa using he
    have NX : Hid (∀ j (hj : j < i + 1) (hl : j < l.length), kRt l[j] ≠ id) := Lib.hid (fun j hj hl => by
     rcases Nat.lt_or_ge j i with h | h
     ·exact HALL.out j h hl
     ·obtain rfl : j = i := by omega
      rw [KX.out]; exact he)
    clear he
    go_wp2_with ((with_reducible show Calls _ _ _ _ _); refine (number_rt a en ex tm B3 B4 B5 m3 m4 m5 d3 d4 d5 _).mono ?_; rintro e w2 ⟨rfl, b2⟩; have B2 := Lib.hid (B1.out.trans (b2.mono B1.out.size)); have X42 := Lib.hid ((b2.block _ (heap_lt X47.out)).trans X47.out); clear b2)
    go_roundw
    case measure => simp [intOf]; omega
    case rel => exact ⟨i + 1, by omega, by go_num, NX.out, X42.out, B2.out⟩
  ·obtain rfl : i = n := by omega
   have hlt' : ¬ (i : Int) < i := by omega
   have FN : Hid (findB kRt l id = false ∧ findV kRt l id zRt = zRt) := Lib.hid (find_no fun j hj => HALL.out j (by rw [HN.out]; exact hj) hj)
   obtain ⟨q8, hq8⟩ : ∃ x, x = wr.alloc (.cells #[.int .i64 0, .int .i64 0, .int .i64 0, .slice none 0 0, .slice none 0 0, .slice none 0 0, .int .i64 0] 70) := ⟨_, rfl⟩
   have x1 := heap_alloc_self wr (.cells #[.int .i64 0, .int .i64 0, .int .i64 0, .slice none 0 0, .slice none 0 0, .slice none 0 0, .int .i64 0] 70)
   have b1 := below_new wr (.cells #[.int .i64 0, .int .i64 0, .int .i64 0, .slice none 0 0, .slice none 0 0, .slice none 0 0, .int .i64 0] 70)
   rw [← hq8] at x1 b1
   go_upto_region 8 with fail
   rw [← hq8]
   have X8 := Lib.hid x1
   have X48 := Lib.hid ((b1.block _ (heap_lt X4.out)).trans X4.out)
   have B8 := Lib.hid (BW.out.trans (b1.mono BW.out.size))
   generalize wr.heap.size = p1 at X8 ⊢
   clear x1 b1 hq8
   obtain ⟨k0, k1, k2, k3, k4, k5, k6⟩ := cell7_of X8.out
   go_wp2_with ((with_reducible show wpList _ _ _ (⟨none, _, _, _, _, _⟩ :: _) _ _); refine wpList_store_rowS rfl _ (.tmp 4) (.tmp 21) rfl w.heap.size rfl (c' := #[.int .i64 0, .int .i64 0, .int .i64 0, .slice none 0 0, .slice none 0 0, .slice none 0 0, .int .i64 0]) rfl X48.out infoRoute7 rfl (by simp [Value.oneCell']) ?_)
   refine bodyPost_ret (results_rowS_tmp (c := #[.int .i64 0, .int .i64 0, .int .i64 0, .slice none 0 0, .slice none 0 0, .slice none 0 0, .int .i64 0]) rfl _ _ w.heap.size rfl (setRow_heap _ _ _ _ _ _ X48.out) Try.underlying70 infoRoute7 (.bool false) rfl) rfl ⟨⟨_, by rw [FN.out.1], ?_⟩, below_setRow B8.out (Nat.le_refl _) _⟩
   rw [FN.out.2]
   exact ⟨_, _, _, rfl, ⟨ListIn.nil_, ListIn.nil_, ListIn.nil_⟩⟩
set_option maxHeartbeats 8000000 in
theorem found_rt (v y : Value) (p : Pl) (l : List Rt) (id : Int) (w : World) (h : PlanV w w.heap.size v p) (h' : RoutesIn w w.heap.size y l) :
  Calls Try.prog 71 #[v, y, .int .i64 id] w fun e w' => (∃ x, e = .returned (.tuple #[x, .int .i64 (elE p kRt l id)]) ∧ RouteV w' w.heap.size x (elV p kRt l id zRt)) ∧ Below w.heap.size w w' := by
 obtain ⟨A2, c2, A3, c3, A4, c4, A5, c5, n2, n3, n4, n5, rfl, hm2, hm3, hm4, hm5, HCP, HIN, HN⟩ := open_plan h
 have H := Lib.hid h'
 obtain ⟨A, c, rfl, -, -⟩ := h'.slice
 obtain ⟨n, hn⟩ : ∃ n, n = l.length := ⟨_, rfl⟩
 have HL := Lib.hid (show RoutesIn w w.heap.size (.slice A n c) l by rw [hn]; exact H.out)
 rw [← hn]
 clear hn H h'
 have hq := boxes3 w (.cells #[.int .i64 p.ver, .int .i64 p.par, .slice A2 n2 c2, .slice A3 n3 c3, .slice A4 n4 c4, .slice A5 n5 c5] 35) (.cells #[.int .i64 0, .int .i64 0, .int .i64 0, .slice none 0 0, .slice none 0 0, .slice none 0 0, .int .i64 0] 70) (.cells #[.int .i64 0, .int .i64 0, .int .i64 0, .slice none 0 0, .slice none 0 0, .slice none 0 0, .int .i64 0] 70)
 have hk1 := cell6_of (heap_alloc_self w (.cells #[.int .i64 p.ver, .int .i64 p.par, .slice A2 n2 c2, .slice A3 n3 c3, .slice A4 n4 c4, .slice A5 n5 c5] 35))
 obtain ⟨q, hq', q0, q1, q2, qs, qb⟩ := hq
 go_enter Try.func71, Try.ntmps71
 go_upto_region 2 with fail
 rw [← hq']
 have XP := Lib.hid q0
 have X6 := Lib.hid q1
 have X8 := Lib.hid q2
 have BQ := Lib.hid qb
 clear hk1 hq' q0 q1 q2 qs qb
 have HI := Lib.hid ((HIN.out.below BQ.out).more BQ.out.size)
 obtain ⟨k0, k1, k2, k3, k4, k5⟩ := cell6_of XP.out
 go_wp2_with fail
 refine (check_prog _ p q ⟨_, _, _, _, rfl, HI.out⟩).mono ?_
 rintro e w1 ⟨rfl, b1⟩
 clear k0 k1 k2 k3 k4 k5 HI
 replace BQ := Lib.hid (BQ.out.trans (b1.mono BQ.out.size))
 replace X6 := Lib.hid ((b1.block _ (heap_lt X6.out)).trans X6.out)
 replace X8 := Lib.hid ((b1.block _ (heap_lt X8.out)).trans X8.out)
 clear b1
 have CB : Hid (planMay p = false → chk8 p = 8) := Lib.hid (fun h => by rw [chk8, h]; rfl)
 have CG : Hid (planMay p = true → chk8 p = 0) := Lib.hid (fun h => by rw [chk8, h]; rfl)
 generalize chk8 p = ck at CB CG ⊢
 cases hm : planMay p with
 | false =>
  obtain rfl := CB.out hm
  have HE := Lib.hid (elE_bad (k := kRt) (l := l) (id := id) (z := zRt) hm)
  clear hm
  obtain ⟨j0, j1, j2, j3, j4, j5, j6⟩ := cell7_of X8.out
  go_wp2_with ((with_reducible show wpList _ _ _ (⟨none, _, _, _, _, _⟩ :: _) _ _); refine wpList_store_rowS rfl _ (.tmp 6) (.tmp 16) rfl (w.heap.size + 1) rfl (c' := #[.int .i64 0, .int .i64 0, .int .i64 0, .slice none 0 0, .slice none 0 0, .slice none 0 0, .int .i64 0]) rfl X6.out infoRoute7 rfl (by simp [Value.oneCell']) ?_)
  refine bodyPost_ret (results_rowS_tmp (c := #[.int .i64 0, .int .i64 0, .int .i64 0, .slice none 0 0, .slice none 0 0, .slice none 0 0, .int .i64 0]) rfl _ _ (w.heap.size + 1) rfl (setRow_heap _ _ _ _ _ _ X6.out) Try.underlying70 infoRoute7 (.int .i64 8) rfl) rfl ⟨⟨_, by rw [HE.out.1], ?_⟩, below_setRow BQ.out (Nat.le_succ _) _⟩
  rw [HE.out.2]
  exact ⟨_, _, _, rfl, ⟨ListIn.nil_, ListIn.nil_, ListIn.nil_⟩⟩
 | true =>
  obtain rfl := CG.out hm
  have HM := Lib.hid hm
  have FA := Lib.hid (find_at1 kRt l id zRt)
  clear hm
  go_wp2_with fail
  refine (find_rtB _ l id w1 w.heap.size BQ.out.size (HL.out.below routeR BQ.out)).mono ?_
  rintro e w2 ⟨⟨x, rfl, hrv⟩, b1⟩
  have hrw : RouteV w2 w2.heap.size x (findV kRt l id zRt) := hrv.more (Nat.le_trans BQ.out.size b1.size)
  obtain ⟨u3, u4, u5, rfl, hin⟩ := hrw
  obtain ⟨B3, d3, rfl, -, -⟩ := hin.path.slice
  obtain ⟨B4, d4, rfl, -, -⟩ := hin.over.slice
  obtain ⟨B5, d5, rfl, -, -⟩ := hin.flanks.slice
  clear hin
  have HRV := Lib.hid hrv
  clear hrv
  generalize findV kRt l id zRt = fv at FA HRV ⊢
  generalize findB kRt l id = fb at FA ⊢
  replace BQ := Lib.hid (BQ.out.trans (b1.mono BQ.out.size))
  replace X6 := Lib.hid ((b1.block _ (heap_lt X6.out)).trans X6.out)
  replace X8 := Lib.hid ((b1.block _ (heap_lt X8.out)).trans X8.out)
  clear b1
  obtain ⟨q3, hq⟩ : ∃ x, x = w2.alloc (.cells #[.int .i64 fv.id, .int .i64 fv.entry, .int .i64 fv.exit, .slice B3 fv.path.length d3, .slice B4 fv.over.length d4, .slice B5 fv.flanks.length d5, .int .i64 fv.timer] 70) := ⟨_, rfl⟩
  have x1 := heap_alloc_self w2 (.cells #[.int .i64 fv.id, .int .i64 fv.entry, .int .i64 fv.exit, .slice B3 fv.path.length d3, .slice B4 fv.over.length d4, .slice B5 fv.flanks.length d5, .int .i64 fv.timer] 70)
  have b1 := below_new w2 (.cells #[.int .i64 fv.id, .int .i64 fv.entry, .int .i64 fv.exit, .slice B3 fv.path.length d3, .slice B4 fv.over.length d4, .slice B5 fv.flanks.length d5, .int .i64 fv.timer] 70)
  rw [← hq] at x1 b1
  go_upto_region 6 with fail
  rw [← hq]
  have X10 := Lib.hid x1
  have BR := Lib.hid (b1.mono BQ.out.size)
  generalize w2.heap.size = p10 at X10 ⊢
  clear x1 hq
  replace BQ := Lib.hid (BQ.out.trans (b1.mono BQ.out.size))
  replace X6 := Lib.hid ((b1.block _ (heap_lt X6.out)).trans X6.out)
  replace X8 := Lib.hid ((b1.block _ (heap_lt X8.out)).trans X8.out)
  clear b1
  rcases FA.out with ⟨rfl, -, ha⟩ | ⟨i, hi, rfl, hv, ha, -⟩
  ·have HE := Lib.hid (elE_none (k := kRt) (l := l) (id := id) (z := zRt) HM.out ha)
   obtain ⟨j0, j1, j2, j3, j4, j5, j6⟩ := cell7_of X8.out
   go_wp2_with ((with_reducible show wpList _ _ _ (⟨none, _, _, _, _, _⟩ :: _) _ _); refine wpList_store_rowS rfl _ (.tmp 6) (.tmp 26) rfl (w.heap.size + 1) rfl (c' := #[.int .i64 0, .int .i64 0, .int .i64 0, .slice none 0 0, .slice none 0 0, .slice none 0 0, .int .i64 0]) rfl X6.out infoRoute7 rfl (by simp [Value.oneCell']) ?_)
   refine bodyPost_ret (results_rowS_tmp (c := #[.int .i64 0, .int .i64 0, .int .i64 0, .slice none 0 0, .slice none 0 0, .slice none 0 0, .int .i64 0]) rfl _ _ (w.heap.size + 1) rfl (setRow_heap _ _ _ _ _ _ X6.out) Try.underlying70 infoRoute7 (.int .i64 6) rfl) rfl ⟨⟨_, by rw [HE.out.1], ?_⟩, below_setRow BQ.out (Nat.le_succ _) _⟩
   rw [HE.out.2]
   exact ⟨_, _, _, rfl, ⟨ListIn.nil_, ListIn.nil_, ListIn.nil_⟩⟩
  ·have HE0 := Lib.hid (elE_some (k := kRt) (z := zRt) HM.out hi ha)
   have HE : Hid ((elE p kRt l id) = 0 ∧ (elV p kRt l id zRt) = fv) := Lib.hid ⟨HE0.out.1, HE0.out.2.trans hv.symm⟩
   clear hv ha
   obtain ⟨j0, j1, j2, j3, j4, j5, j6⟩ := cell7_of X10.out
   go_wp2_with ((with_reducible show wpList _ _ _ (⟨none, _, _, _, _, _⟩ :: _) _ _); refine wpList_store_rowS rfl _ (.tmp 6) (.tmp 27) rfl (w.heap.size + 1) rfl (c' := #[.int .i64 fv.id, .int .i64 fv.entry, .int .i64 fv.exit, .slice B3 fv.path.length d3, .slice B4 fv.over.length d4, .slice B5 fv.flanks.length d5, .int .i64 fv.timer]) rfl X6.out infoRoute7 rfl (by simp [Value.oneCell']) ?_)
   refine bodyPost_ret (results_rowS_tmp (c := #[.int .i64 fv.id, .int .i64 fv.entry, .int .i64 fv.exit, .slice B3 fv.path.length d3, .slice B4 fv.over.length d4, .slice B5 fv.flanks.length d5, .int .i64 fv.timer]) rfl _ _ (w.heap.size + 1) rfl (setRow_heap _ _ _ _ _ _ X6.out) Try.underlying70 infoRoute7 (.int .i64 0) rfl) rfl ⟨⟨_, by rw [HE.out.1], ?_⟩, below_setRow BQ.out (Nat.le_succ _) _⟩
   rw [HE.out.2]
   obtain ⟨y3, y4, y5, e, hr⟩ := HRV.out
   cases e
   exact ⟨_, _, _, rfl, hr.below (below_setRow BR.out (Nat.le_succ _) _)⟩
theorem elV_few (p : Pl) (id : Int) : (elV p kRt p.routes id zRt).path.length ≤ 1000 ∧ (elV p kRt p.routes id zRt).over.length ≤ 1000 ∧ (elV p kRt p.routes id zRt).flanks.length ≤ 1000 := by
 cases hm : planMay p with
 | false => rw [(elE_bad (k := kRt) (l := p.routes) (id := id) (z := zRt) hm).2]; exact ⟨Nat.zero_le _, Nat.zero_le _, Nat.zero_le _⟩
 | true =>
  rcases at1_cases kRt p.routes id with ⟨h1, -⟩ | ⟨i, hi, h1, -, -⟩
  ·rw [(elE_none (k := kRt) (l := p.routes) (id := id) (z := zRt) hm (by omega)).2]; exact ⟨Nat.zero_le _, Nat.zero_le _, Nat.zero_le _⟩
  ·rw [(elE_some (z := zRt) hm hi h1).2]
   have h := ((planMay_iff.1 hm).each i hi).2.2
   have a := h.path.2
   have b := h.over
   have c := h.flank
   exact ⟨by omega, by omega, by omega⟩
set_option maxHeartbeats 8000000 in
theorem route_prog (v : Value) (p : Pl) (id : Int) (w : World) (h : PlanV w w.heap.size v p) :
  Calls Try.prog 48 #[v, .int .i64 id] w fun e w' => ∃ u3 u4 u5, e = .returned (.tuple #[.agg #[.int .i64 (elV p kRt p.routes id zRt).id, .int .i64 (elV p kRt p.routes id zRt).entry, .int .i64 (elV p kRt p.routes id zRt).exit, u3, u4, u5, .int .i64 (elV p kRt p.routes id zRt).timer], .int .i64 (elE p kRt p.routes id)]) ∧ RtOwn w' w.heap.size u3 u4 u5 (elV p kRt p.routes id zRt) ∧ Below w.heap.size w w' := by
 obtain ⟨A2, c2, A3, c3, A4, c4, A5, c5, n2, n3, n4, n5, rfl, hm2, hm3, hm4, hm5, HCP, HIN, HN⟩ := open_plan h
 have hq := two_boxes w (.cells #[.int .i64 p.ver, .int .i64 p.par, .slice A2 n2 c2, .slice A3 n3 c3, .slice A4 n4 c4, .slice A5 n5 c5] 35) (.cells #[.int .i64 0, .int .i64 0, .int .i64 0, .slice none 0 0, .slice none 0 0, .slice none 0 0, .int .i64 0] 70)
 go_enter Try.func48, Try.ntmps48
 go_upto_region 1 with fail
 have hqs : ((w.alloc (.cells #[.int .i64 p.ver, .int .i64 p.par, .slice A2 n2 c2, .slice A3 n3 c3, .slice A4 n4 c4, .slice A5 n5 c5] 35)).alloc (.cells #[.int .i64 0, .int .i64 0, .int .i64 0, .slice none 0 0, .slice none 0 0, .slice none 0 0, .int .i64 0] 70)).heap.size = w.heap.size + 2 := by simp
 generalize (w.alloc (.cells #[.int .i64 p.ver, .int .i64 p.par, .slice A2 n2 c2, .slice A3 n3 c3, .slice A4 n4 c4, .slice A5 n5 c5] 35)).alloc (.cells #[.int .i64 0, .int .i64 0, .int .i64 0, .slice none 0 0, .slice none 0 0, .slice none 0 0, .int .i64 0] 70) = q at hq hqs ⊢
 obtain ⟨q0, q1, qb⟩ := hq
 have XP := Lib.hid q0
 have X4 := Lib.hid q1
 have BQ := Lib.hid qb
 have QS : Hid (w.heap.size + 2 ≤ q.heap.size) := Lib.hid (by omega)
 clear q0 q1 qb hqs
 have HI := Lib.hid ((HIN.out.below BQ.out).more BQ.out.size)
 obtain ⟨k0, k1, k2, k3, k4, k5⟩ := cell6_of XP.out
 go_wp2_with fail
 refine (found_rt _ _ p p.routes id q ⟨_, _, _, _, rfl, HI.out⟩ HI.out.routes).mono ?_
 rintro e w1 ⟨⟨x, rfl, hrv⟩, b1⟩
 clear k0 k1 k2 k3 k4 k5 HI XP
 have EF := Lib.hid (elV_few p id)
 generalize hee : (elE p kRt p.routes id) = ee
 generalize hev : (elV p kRt p.routes id zRt) = ev at hrv EF ⊢
 have HV := Lib.hid (And.intro hee hev)
 clear hee hev
 obtain ⟨u3, u4, u5, rfl, hin⟩ := hrv.more b1.size
 obtain ⟨B3, d3, rfl, -, -⟩ := hin.path.slice
 obtain ⟨B4, d4, rfl, -, -⟩ := hin.over.slice
 obtain ⟨B5, d5, rfl, -, -⟩ := hin.flanks.slice
 obtain ⟨m3, e3⟩ : ∃ m, m = ev.path.length := ⟨_, rfl⟩
 obtain ⟨m4, e4⟩ : ∃ m, m = ev.over.length := ⟨_, rfl⟩
 obtain ⟨m5, e5⟩ : ∃ m, m = ev.flanks.length := ⟨_, rfl⟩
 rw [← e3, ← e4, ← e5] at hin ⊢
 have HR0 := Lib.hid hin
 have tS : w.heap.size + 2 ≤ w1.heap.size := Nat.le_trans QS.out b1.size
 clear QS hin hrv e3 e4 e5
 have QS := Lib.hid tS
 clear tS
 replace BQ := Lib.hid (BQ.out.trans (b1.mono BQ.out.size))
 replace X4 := Lib.hid ((b1.block _ (heap_lt X4.out)).trans X4.out)
 clear b1
 obtain ⟨q3, hq⟩ : ∃ x, x = w1.alloc (.cells #[.int .i64 ev.id, .int .i64 ev.entry, .int .i64 ev.exit, .slice B3 m3 d3, .slice B4 m4 d4, .slice B5 m5 d5, .int .i64 ev.timer] 70) := ⟨_, rfl⟩
 have x1 := heap_alloc_self w1 (.cells #[.int .i64 ev.id, .int .i64 ev.entry, .int .i64 ev.exit, .slice B3 m3 d3, .slice B4 m4 d4, .slice B5 m5 d5, .int .i64 ev.timer] 70)
 have b1 := below_new w1 (.cells #[.int .i64 ev.id, .int .i64 ev.entry, .int .i64 ev.exit, .slice B3 m3 d3, .slice B4 m4 d4, .slice B5 m5 d5, .int .i64 ev.timer] 70)
 rw [← hq] at x1 b1
 go_upto_region 2 with fail
 rw [← hq]
 have X6 := Lib.hid x1
 have HR := Lib.hid ((HR0.out.below b1).more b1.size)
 have tS : w.heap.size + 2 ≤ q3.heap.size := Nat.le_trans QS.out b1.size
 generalize w1.heap.size = p6 at X6 ⊢
 clear x1 hq HR0 QS
 have QS := Lib.hid tS
 clear tS
 replace BQ := Lib.hid (BQ.out.trans (b1.mono BQ.out.size))
 replace X4 := Lib.hid ((b1.block _ (heap_lt X4.out)).trans X4.out)
 clear b1
 obtain ⟨j0, j1, j2, j3, j4, j5, j6⟩ := cell7_of X6.out
 go_wp2_with fail
 refine (twinroute_any _ ev q3 ⟨_, _, _, rfl, HR.out⟩ EF.out.1 EF.out.2.1 EF.out.2.2).mono ?_
 rintro e w3 ⟨u3, u4, u5, rfl, ho, b1⟩
 obtain ⟨C3, e3, rfl⟩ := ho.path.slice
 obtain ⟨C4, e4, rfl⟩ := ho.over.slice
 obtain ⟨C5, e5, rfl⟩ := ho.flanks.slice
 have HO := Lib.hid (ho.mono QS.out)
 clear j0 j1 j2 j3 j4 j5 j6 ho X6 HR
 replace BQ := Lib.hid (BQ.out.trans (b1.mono BQ.out.size))
 replace X4 := Lib.hid ((b1.block _ (heap_lt X4.out)).trans X4.out)
 clear b1
 go_wp2_with ((with_reducible show wpList _ _ _ (⟨none, _, _, _, _, _⟩ :: _) _ _); refine wpList_store_rowS rfl _ (.tmp 4) (.tmp 17) rfl (w.heap.size + 1) rfl (c' := #[.int .i64 ev.id, .int .i64 ev.entry, .int .i64 ev.exit, .slice C3 ev.path.length e3, .slice C4 ev.over.length e4, .slice C5 ev.flanks.length e5, .int .i64 ev.timer]) rfl X4.out infoRoute7 rfl (by simp [Value.oneCell']) ?_)
 refine bodyPost_ret (results_rowS_tmp (c := #[.int .i64 ev.id, .int .i64 ev.entry, .int .i64 ev.exit, .slice C3 ev.path.length e3, .slice C4 ev.over.length e4, .slice C5 ev.flanks.length e5, .int .i64 ev.timer]) rfl _ _ (w.heap.size + 1) rfl (setRow_heap _ _ _ _ _ _ X4.out) Try.underlying70 infoRoute7 (.int .i64 ee) rfl) rfl ⟨_, _, _, by rw [HV.out.1, HV.out.2], ?_, below_setRow BQ.out (Nat.le_succ _) _⟩
 rw [HV.out.2]
 have hg := grownBy_setRow w3 (w.heap.size + 1) #[.int .i64 ev.id, .int .i64 ev.entry, .int .i64 ev.exit, .slice C3 ev.path.length e3, .slice C4 ev.over.length e4, .slice C5 ev.flanks.length e5, .int .i64 ev.timer]
 have M := HO.out
 exact ⟨(own_kept (R := IntR) intF M.path hg (fun k hk => by have := own_lo M.path k hk; omega)).mono (by omega), (own_kept (R := IntR) intF M.over hg (fun k hk => by have := own_lo M.over k hk; omega)).mono (by omega), (own_kept (R := JoinR) joinF M.flanks hg (fun k hk => by have := own_lo M.flanks k hk; omega)).mono (by omega)⟩

end Go.Proofs.Ytemmgmjhomgbbaa
