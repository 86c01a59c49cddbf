/-
  The document's own functions of package plan: Sections, TwinRoute.
  Conditions: lists of at most a thousand.
-/
import Derived.Test.YthlolpflgninjaaPlnOwn
set_option linter.unusedVariables false
set_option linter.unusedSimpArgs false
set_option maxRecDepth 100000
namespace Go.Proofs.Ythlolpflgninjaa
open Go.RowKit

theorem infoInt : (Try.prog.info? 3).map (fun i => (i.zero, i.size, i.bytes)) = some (some (.int .i64 0), 1, 8) := by kernel_rfl
theorem infoFlank : (Try.prog.info? 86).map (fun i => (i.zero, i.size, i.bytes)) = some (some (.agg #[.int .i64 0, .int .i64 0]), 2, 16) := by kernel_rfl
theorem infoRoute7 : (Try.prog.info? 35).map (·.size) = some 7 := by kernel_rfl
theorem intR_full {W : World} {B : Nat} (c : Nat → Option Value) (x : Int) (h : IntR W B c x) : ∀ k, k < 1 → ∃ v, c k = some v ∧ v.oneCell' = true := fun k hk => by
  match k, hk with
  | 0, _ => exact ⟨_, h, rfl⟩
theorem own_cat {α : Type} {T : TypeId} {sz : Nat} {R : El α} {W W1 W2 : World} {B1 B2 lo n : Nat} {v : Value} {l m : List α} {yss zss : List (List Value)} (hf : FlatR R) (ho : W.ownsRow lo T sz v n (yss.flatten ++ zss.flatten)) (hn : n = l.length + m.length) (hl : yss.length = l.length) (hm : zss.length = m.length)
    (hy : ∀ ys ∈ yss, ys.length = sz) (hz : ∀ ys ∈ zss, ys.length = sz) (h1 : ∀ (j : Nat) (ys : List Value) (x : α), yss[j]? = some ys → l[j]? = some x → R W1 B1 (fun k => ys[k]?) x) (h2 : ∀ (j : Nat) (ys : List Value) (x : α), zss[j]? = some ys → m[j]? = some x → R W2 B2 (fun k => ys[k]?) x) (hmx : n ≤ maxLen) :
    ListOwn T sz R W lo v (l ++ m) := by
  refine ⟨yss ++ zss, by rw [List.length_append, ← hn, List.flatten_append]; exact ho, by simp [hl, hm], by rw [List.length_append, ← hn]; exact hmx, fun z hz' => ?_, fun j z y hz' hy' => ?_⟩
  · rcases List.mem_append.1 hz' with h | h
    · exact hy z h
    · exact hz z h
  · rcases Nat.lt_or_ge j l.length with h | h
    · rw [List.getElem?_append_left (by omega)] at hz'
      rw [List.getElem?_append_left h] at hy'
      exact hf (h1 j z y hz' hy')
    · rw [List.getElem?_append_right (by omega), hl] at hz'
      rw [List.getElem?_append_right h] at hy'
      exact hf (h2 (j - l.length) z y hz' hy')
theorem own_one {α : Type} {T : TypeId} {sz : Nat} {R : El α} {W W1 : World} {B1 lo n : Nat} {v : Value} {l : List α} {yss : List (List Value)} (hf : FlatR R) (ho : W.ownsRow lo T sz v n yss.flatten) (hn : n = l.length) (hl : yss.length = l.length)
    (hy : ∀ ys ∈ yss, ys.length = sz) (h1 : ∀ (j : Nat) (ys : List Value) (x : α), yss[j]? = some ys → l[j]? = some x → R W1 B1 (fun k => ys[k]?) x) (hmx : n ≤ maxLen) : ListOwn T sz R W lo v l :=
  ⟨yss, by rw [← hn]; exact ho, hl, by rw [← hn]; exact hmx, hy, fun j ys x a b => hf (h1 j ys x a b)⟩
theorem wpList_store_rowS {P : Program} {ops : Array Oper} {rest : List Oper} {op : Oper} {a : Act} {w : World} {Q : Exit → Act → World → Prop} (hgd : op.guard = none) (ty : TypeId) (x y : Operand) (ho : op.op = .store ty x y)
    (b : Nat) (hx : a.eval x = .pointer (some ⟨b, 0, none⟩)) {c c' : Array Value} (hy : a.eval y = .agg c') {t : TypeId} (hb : w.heap[b]? = some (.cells c t (0, 0)))
    (hi : (P.info? ty).map (·.size) = some c'.size) (hs : c.size = c'.size) (h1 : c'.all (·.oneCell') = true)
    (h : wpList P ops Q rest (a.put op.dst undef) (w.setRow b c')) : wpList P ops Q (op :: rest) a w :=
  wpList_plain hgd fun _ hK => by
    unfold Oper.wp execOp
    simp only [ho, hx, hy, Instr.storeAt, Instr.sureAddr, Sem.run_bind, Sem.run_pure, Result.andThen_ok]
    rw [run_storeVar_row w b t ty c c' hb hi hs h1]
    exact hK _ _ h

set_option maxHeartbeats 4000000 in
theorem rsections_any (v : Value) (r : Rt) (w : World) (h : RouteV w w.heap.size v r) (hl1 : r.path.length ≤ 1000) (hl2 : r.over.length ≤ 1000) :
    Calls Try.prog 98 #[v] w fun e w' => ∃ u, e = .returned u ∧ IntsOwn w' w.heap.size u (r.path ++ r.over) ∧ Below w.heap.size w w' := by
  obtain ⟨y3, y4, y5, rfl, hin⟩ := h
  obtain ⟨A3, c3, rfl, -, -⟩ := hin.path.slice
  obtain ⟨A4, c4, rfl, -, -⟩ := hin.over.slice
  obtain ⟨n3, hn3⟩ : ∃ n, n = r.path.length := ⟨_, rfl⟩
  obtain ⟨n4, hn4⟩ : ∃ n, n = r.over.length := ⟨_, rfl⟩
  have H3 : Hid (IntsIn w w.heap.size (.slice A3 n3 c3) r.path) := Lib.hid (by rw [hn3]; exact hin.path)
  have H4 : Hid (IntsIn w w.heap.size (.slice A4 n4 c4) r.over) := Lib.hid (by rw [hn4]; exact hin.over)
  have HN : Hid (n3 = r.path.length ∧ n4 = r.over.length) := Lib.hid ⟨hn3, hn4⟩
  have HL : Hid (n3 ≤ 1000 ∧ n4 ≤ 1000) := Lib.hid (by omega)
  rw [← hn3, ← hn4]
  obtain ⟨i0, hi, hz0, hz1, hz2⟩ := info_parts infoInt
  have I0 := Lib.hid hi
  have I1 := Lib.hid hz0
  have I2 := Lib.hid hz1
  have I3 := Lib.hid hz2
  have hq0 := heap_alloc_self w (.cells #[.int .i64 r.id, .int .i64 r.entry, .int .i64 r.exit, .slice A3 n3 c3, .slice A4 n4 c4, y5, .int .i64 r.timer] 35)
  have hqb := below_new w (.cells #[.int .i64 r.id, .int .i64 r.entry, .int .i64 r.exit, .slice A3 n3 c3, .slice A4 n4 c4, y5, .int .i64 r.timer] 35)
  clear hn3 hn4 hin hl1 hl2 hi hz0 hz1 hz2
  go_enter Try.func98, Try.ntmps98
  go_upto_region 1 with fail
  generalize w.alloc (.cells #[.int .i64 r.id, .int .i64 r.entry, .int .i64 r.exit, .slice A3 n3 c3, .slice A4 n4 c4, y5, .int .i64 r.timer] 35) = q at hq0 hqb ⊢
  have QX := Lib.hid hq0
  have QB := Lib.hid hqb
  obtain ⟨k0, k1, k2, k3, k4, k5, k6⟩ := cell7_of hq0
  obtain ⟨yss, hy1, hy2, hy3, hy4, hy5, hy6, hy7⟩ := ((H3.out.below intR hqb).more intR hqb.size).cells (by omega) intR_full intR_cells
  have Y1 := Lib.hid hy1
  have Y2 := Lib.hid hy2
  have Y3 := Lib.hid hy3
  have Y4 := Lib.hid hy4
  have Y6 := Lib.hid hy6
  have Y7 := Lib.hid hy7
  have YL : Hid (yss.flatten.length = n3 * 1) := Lib.hid (by rw [flat_length _ hy2, hy1, HN.out.1])
  clear hq0 hqb hy1 hy2 hy3 hy4 hy5 hy6 hy7
  go_upto_region 3 with ((with_reducible show wpList _ _ _ (⟨some 7, _, _, _, _, _⟩ :: _) _ _); refine wpList_append_list rfl (.tmp 4) (.tmp 6) _ rfl Try.underlying32 I0.out I1.out rfl I2.out (by decide) I3.out (by decide) rfl (World.ownsRow_nil q q.heap.size _ _) rfl YL.out Y4.out Y7.out Y6.out (by have := HL.out; omega) (Nat.le_refl _) ?_; intro v4 w4 hown4 hgrow4; rw [Nat.zero_add, List.nil_append] at hown4; obtain ⟨B4, d4, rfl⟩ := own_sliceN hown4; have O4 := Lib.hid hown4; have G4 : Hid (Below q.heap.size q w4) := Lib.hid ((Below.refl _ q).grown hgrow4 (Nat.le_refl _) (fun k hk => by cases hk)); clear hown4 hgrow4)
  have X4 := Lib.hid ((G4.out.block _ (heap_lt QX.out)).trans QX.out)
  have BW := Lib.hid (QB.out.trans (G4.out.mono QB.out.size))
  clear k0 k1 k2 k3 k4 k5 k6
  obtain ⟨k0, k1, k2, k3, k4, k5, k6⟩ := cell7_of X4.out
  obtain ⟨zss, hz1, hz2, hz3, hz4, hz5, hz6, hz7⟩ := ((H4.out.below intR BW.out).more intR BW.out.size).cells (by omega) intR_full intR_cells
  have Z1 := Lib.hid hz1
  have Z2 := Lib.hid hz2
  have Z3 := Lib.hid hz3
  have Z4 := Lib.hid hz4
  have Z6 := Lib.hid hz6
  have Z7 := Lib.hid hz7
  have ZL : Hid (zss.flatten.length = n4 * 1) := Lib.hid (by rw [flat_length _ hz2, hz1, HN.out.2])
  clear hz1 hz2 hz3 hz4 hz5 hz6 hz7
  go_wp2_with ((with_reducible show wpList _ _ _ (⟨some 11, _, _, _, _, _⟩ :: _) _ _); refine wpList_append_list rfl (.tmp 8) (.tmp 10) _ rfl Try.underlying32 I0.out I1.out rfl I2.out (by decide) I3.out (by decide) rfl O4.out rfl ZL.out Z4.out Z7.out Z6.out (by have := HL.out; omega) G4.out.size ?_; intro v5 w5 hown5 hgrow5; have O5 := Lib.hid hown5; have G5 := Lib.hid hgrow5; clear hown5 hgrow5)
  go_ret
  exact ⟨_, rfl, (own_cat (R := IntR) (sz := 1) intF O5.out (by rw [HN.out.1, HN.out.2]) Y1.out Z1.out Y2.out Z2.out Y3.out Z3.out (by have := HL.out; unfold maxLen; omega)).mono QB.out.size, BW.out.grown G5.out BW.out.size (fun k hk => Nat.le_trans QB.out.size (own_ge O4.out k hk))⟩

set_option maxHeartbeats 8000000 in
theorem rtwinroute_any (v : Value) (r : Rt) (w : World) (h : RouteV w w.heap.size v r) (hl1 : r.path.length ≤ 1000) (hl2 : r.over.length ≤ 1000) (hl3 : r.flanks.length ≤ 1000) :
    Calls Try.prog 37 #[v] w fun e w' => ∃ u3 u4 u5, e = .returned (.agg #[.int .i64 r.id, .int .i64 r.entry, .int .i64 r.exit, u3, u4, u5, .int .i64 r.timer]) ∧ RtOwn w' w.heap.size u3 u4 u5 r ∧ Below w.heap.size w w' := by
  obtain ⟨y3, y4, y5, rfl, hin⟩ := h
  obtain ⟨A3, c3, rfl, -, -⟩ := hin.path.slice
  obtain ⟨A4, c4, rfl, -, -⟩ := hin.over.slice
  obtain ⟨A5, c5, rfl, -, -⟩ := hin.flanks.slice
  obtain ⟨n3, hn3⟩ : ∃ n, n = r.path.length := ⟨_, rfl⟩
  obtain ⟨n4, hn4⟩ : ∃ n, n = r.over.length := ⟨_, rfl⟩
  obtain ⟨n5, hn5⟩ : ∃ n, n = r.flanks.length := ⟨_, rfl⟩
  have H3 : Hid (IntsIn w w.heap.size (.slice A3 n3 c3) r.path) := Lib.hid (by rw [hn3]; exact hin.path)
  have H4 : Hid (IntsIn w w.heap.size (.slice A4 n4 c4) r.over) := Lib.hid (by rw [hn4]; exact hin.over)
  have H5 : Hid (JoinsIn w w.heap.size (.slice A5 n5 c5) r.flanks) := Lib.hid (by rw [hn5]; exact hin.flanks)
  have HN : Hid (n3 = r.path.length ∧ n4 = r.over.length ∧ n5 = r.flanks.length) := Lib.hid ⟨hn3, hn4, hn5⟩
  have HL : Hid (n3 ≤ 1000 ∧ n4 ≤ 1000 ∧ n5 ≤ 1000) := Lib.hid (by omega)
  rw [← hn3, ← hn4, ← hn5]
  obtain ⟨i0, hi, hz0, hz1, hz2⟩ := info_parts infoInt
  have I0 := Lib.hid hi
  have I1 := Lib.hid hz0
  have I2 := Lib.hid hz1
  have I3 := Lib.hid hz2
  clear hi hz0 hz1 hz2
  obtain ⟨j0, hi, hz0, hz1, hz2⟩ := info_parts infoFlank
  have J0 := Lib.hid hi
  have J1 := Lib.hid hz0
  have J2 := Lib.hid hz1
  have J3 := Lib.hid hz2
  clear hi hz0 hz1 hz2
  have hq := boxes3 w (.cells #[.int .i64 r.id, .int .i64 r.entry, .int .i64 r.exit, .slice A3 n3 c3, .slice A4 n4 c4, .slice A5 n5 c5, .int .i64 r.timer] 35) (.cells #[.int .i64 0, .int .i64 0, .int .i64 0, .slice none 0 0, .slice none 0 0, .slice none 0 0, .int .i64 0] 35) (.cells #[.int .i64 r.id, .int .i64 r.entry, .int .i64 r.exit, .slice none 0 0, .slice none 0 0, .slice none 0 0, .int .i64 r.timer] 35)
  have hk1 := cell7_of (heap_alloc_self w (.cells #[.int .i64 r.id, .int .i64 r.entry, .int .i64 r.exit, .slice A3 n3 c3, .slice A4 n4 c4, .slice A5 n5 c5, .int .i64 r.timer] 35))
  clear hn3 hn4 hn5 hin hl1 hl2 hl3
  obtain ⟨q, hq', q0, q1, q2, qs, qb⟩ := hq
  go_enter Try.func37, Try.ntmps37
  go_upto_region 2 with fail
  rw [← hq']
  have X1 := Lib.hid q0
  have X2 := Lib.hid q1
  have X3 := Lib.hid q2
  have QS := Lib.hid qs
  have QB := Lib.hid qb
  clear hk1 hq' q0 q1 q2 qs qb

  obtain ⟨k0, k1, k2, k3, k4, k5, k6⟩ := cell7_of X1.out
  obtain ⟨m0, m1, m2, m3, m4, m5, m6⟩ := cell7_of X3.out
  obtain ⟨yss, hy1, hy2, hy3, hy4, hy5, hy6, hy7⟩ := ((H3.out.below intR QB.out).more intR QB.out.size).cells (by omega) intR_full intR_cells
  have Y1 := Lib.hid hy1
  have Y2 := Lib.hid hy2
  have Y3 := Lib.hid hy3
  have Y4 := Lib.hid hy4
  have Y6 := Lib.hid hy6
  have Y7 := Lib.hid hy7
  have YL : Hid (yss.flatten.length = n3 * 1) := Lib.hid (by rw [flat_length _ hy2, hy1, HN.out.1])
  clear hy1 hy2 hy3 hy4 hy5 hy6 hy7
  go_upto_region 3 with ((with_reducible show wpList _ _ _ (⟨some 17, _, _, _, _, _⟩ :: _) _ _); refine wpList_append_list rfl (.tmp 14) (.tmp 16) _ rfl Try.underlying32 I0.out I1.out rfl I2.out (by decide) I3.out (by decide) rfl (World.ownsRow_nil q q.heap.size _ _) rfl YL.out Y4.out Y7.out Y6.out (by have := HL.out; omega) (Nat.le_refl _) ?_; intro v3 w3 hown3 hgrow3; rw [Nat.zero_add, List.nil_append] at hown3; obtain ⟨B3, d3, rfl⟩ := own_sliceN hown3; have O3 := Lib.hid (own_one (R := IntR) (sz := 1) intF hown3 HN.out.1 Y1.out Y2.out Y3.out (by have := HL.out; unfold maxLen; omega)); have G3 : Hid (Below q.heap.size q w3) := Lib.hid ((Below.refl _ q).grown hgrow3 (Nat.le_refl _) (fun k hk => by cases hk)); clear hown3 hgrow3; have Z3 := Lib.hid ((G3.out.block _ (heap_lt X3.out)).trans X3.out); have z3 := frozen2_of Z3.out 3; obtain ⟨e0, e1, e2, e3, e4, e5, e6⟩ := cell7_of Z3.out)
  clear k0 k1 k2 k3 k4 k5 k6 m0 m1 m2 m3 m4 m5 m6 e0 e1 e2 e3 e4 e5 e6 z3 Y1 Y2 Y3 Y4 Y6 Y7 YL
  have hg3 := grown_setK w3 (w.heap.size + 2) 3 (.slice B3 n3 d3)
  have t3 : (w3.setCell ⟨w.heap.size + 2, 3, none⟩ (.slice B3 n3 d3)).heap[w.heap.size + 2]? = some (.cells #[.int .i64 r.id, .int .i64 r.entry, .int .i64 r.exit, .slice B3 n3 d3, .slice none 0 0, .slice none 0 0, .int .i64 r.timer] 35 (0, 0)) := heap_setK (k := 3) Z3.out _
  have t1 := (heap_setFar w3 (w.heap.size + 2) 3 w.heap.size (.slice B3 n3 d3) (by omega)).trans ((G3.out.block _ (heap_lt X1.out)).trans X1.out)
  have t2 := (heap_setFar w3 (w.heap.size + 2) 3 (w.heap.size + 1) (.slice B3 n3 d3) (by omega)).trans ((G3.out.block _ (heap_lt X2.out)).trans X2.out)
  have tb := below_set (QB.out.trans (G3.out.mono QB.out.size)) (show w.heap.size ≤ w.heap.size + 2 by omega) 3 (.slice B3 n3 d3)
  have ts : w.heap.size + 3 ≤ (w3.setCell ⟨w.heap.size + 2, 3, none⟩ (.slice B3 n3 d3)).heap.size := by have := G3.out.size; have := hg3.size; have := QS.out; omega
  have tO3 : ListOwn 3 1 IntR (w3.setCell ⟨w.heap.size + 2, 3, none⟩ (.slice B3 n3 d3)) (w.heap.size + 3) (.slice B3 n3 d3) r.path := own_kept (R := IntR) intF (O3.out.mono (by have := QS.out; omega)) hg3 (fun k hk => by have := own_lo O3.out k hk; have := QS.out; omega)
  clear QS QB X1 X2 X3 Z3 G3 hg3 O3
  generalize w3.setCell ⟨w.heap.size + 2, 3, none⟩ (.slice B3 n3 d3) = q3 at t1 t2 t3 tb ts tO3 ⊢
  have X1 := Lib.hid t1
  have X2 := Lib.hid t2
  have X3 := Lib.hid t3
  have QB := Lib.hid tb
  have QS := Lib.hid ts
  have O3 := Lib.hid tO3
  clear t1 t2 t3 tb ts tO3
  obtain ⟨k0, k1, k2, k3, k4, k5, k6⟩ := cell7_of X1.out
  obtain ⟨m0, m1, m2, m3, m4, m5, m6⟩ := cell7_of X3.out
  obtain ⟨yss, hy1, hy2, hy3, hy4, hy5, hy6, hy7⟩ := ((H4.out.below intR QB.out).more intR QB.out.size).cells (by omega) intR_full intR_cells
  have Y1 := Lib.hid hy1
  have Y2 := Lib.hid hy2
  have Y3 := Lib.hid hy3
  have Y4 := Lib.hid hy4
  have Y6 := Lib.hid hy6
  have Y7 := Lib.hid hy7
  have YL : Hid (yss.flatten.length = n4 * 1) := Lib.hid (by rw [flat_length _ hy2, hy1, HN.out.2.1])
  clear hy1 hy2 hy3 hy4 hy5 hy6 hy7
  go_upto_region 4 with ((with_reducible show wpList _ _ _ (⟨some 23, _, _, _, _, _⟩ :: _) _ _); refine wpList_append_list rfl (.tmp 20) (.tmp 22) _ rfl Try.underlying32 I0.out I1.out rfl I2.out (by decide) I3.out (by decide) rfl (World.ownsRow_nil q3 q3.heap.size _ _) rfl YL.out Y4.out Y7.out Y6.out (by have := HL.out; omega) (Nat.le_refl _) ?_; intro v4 w4 hown4 hgrow4; rw [Nat.zero_add, List.nil_append] at hown4; obtain ⟨B4, d4, rfl⟩ := own_sliceN hown4; have O4 := Lib.hid (own_one (R := IntR) (sz := 1) intF hown4 HN.out.2.1 Y1.out Y2.out Y3.out (by have := HL.out; unfold maxLen; omega)); have G4 : Hid (Below q3.heap.size q3 w4) := Lib.hid ((Below.refl _ q3).grown hgrow4 (Nat.le_refl _) (fun k hk => by cases hk)); clear hown4 hgrow4; have Z3 := Lib.hid ((G4.out.block _ (heap_lt X3.out)).trans X3.out); have z4 := frozen2_of Z3.out 4; obtain ⟨e0, e1, e2, e3, e4, e5, e6⟩ := cell7_of Z3.out)
  clear k0 k1 k2 k3 k4 k5 k6 m0 m1 m2 m3 m4 m5 m6 e0 e1 e2 e3 e4 e5 e6 z4 Y1 Y2 Y3 Y4 Y6 Y7 YL
  have hg4 := grown_setK w4 (w.heap.size + 2) 4 (.slice B4 n4 d4)
  have t3 : (w4.setCell ⟨w.heap.size + 2, 4, none⟩ (.slice B4 n4 d4)).heap[w.heap.size + 2]? = some (.cells #[.int .i64 r.id, .int .i64 r.entry, .int .i64 r.exit, .slice B3 n3 d3, .slice B4 n4 d4, .slice none 0 0, .int .i64 r.timer] 35 (0, 0)) := heap_setK (k := 4) Z3.out _
  have t1 := (heap_setFar w4 (w.heap.size + 2) 4 w.heap.size (.slice B4 n4 d4) (by omega)).trans ((G4.out.block _ (heap_lt X1.out)).trans X1.out)
  have t2 := (heap_setFar w4 (w.heap.size + 2) 4 (w.heap.size + 1) (.slice B4 n4 d4) (by omega)).trans ((G4.out.block _ (heap_lt X2.out)).trans X2.out)
  have tb := below_set (QB.out.trans (G4.out.mono QB.out.size)) (show w.heap.size ≤ w.heap.size + 2 by omega) 4 (.slice B4 n4 d4)
  have ts : w.heap.size + 3 ≤ (w4.setCell ⟨w.heap.size + 2, 4, none⟩ (.slice B4 n4 d4)).heap.size := by have := G4.out.size; have := hg4.size; have := QS.out; omega
  have tO4 : ListOwn 3 1 IntR (w4.setCell ⟨w.heap.size + 2, 4, none⟩ (.slice B4 n4 d4)) (w.heap.size + 3) (.slice B4 n4 d4) r.over := own_kept (R := IntR) intF (O4.out.mono (by have := QS.out; omega)) hg4 (fun k hk => by have := own_lo O4.out k hk; have := QS.out; omega)
  have tO3 := own_kept (R := IntR) intF (O3.out.below intR G4.out) hg4 (fun k hk => by have := own_lo O3.out k hk; omega)
  clear QS QB X1 X2 X3 Z3 G4 hg4 O3 O4
  generalize w4.setCell ⟨w.heap.size + 2, 4, none⟩ (.slice B4 n4 d4) = q4 at t1 t2 t3 tb ts tO3 tO4 ⊢
  have X1 := Lib.hid t1
  have X2 := Lib.hid t2
  have X3 := Lib.hid t3
  have QB := Lib.hid tb
  have QS := Lib.hid ts
  have O3 := Lib.hid tO3
  have O4 := Lib.hid tO4
  clear t1 t2 t3 tb ts tO3 tO4
  obtain ⟨k0, k1, k2, k3, k4, k5, k6⟩ := cell7_of X1.out
  obtain ⟨m0, m1, m2, m3, m4, m5, m6⟩ := cell7_of X3.out
  obtain ⟨yss, hy1, hy2, hy3, hy4, hy5, hy6, hy7⟩ := ((H5.out.below joinR QB.out).more joinR QB.out.size).cells (by omega) joinR_full joinR_cells
  have Y1 := Lib.hid hy1
  have Y2 := Lib.hid hy2
  have Y3 := Lib.hid hy3
  have Y4 := Lib.hid hy4
  have Y6 := Lib.hid hy6
  have Y7 := Lib.hid hy7
  have YL : Hid (yss.flatten.length = n5 * 2) := Lib.hid (by rw [flat_length _ hy2, hy1, HN.out.2.2])
  clear hy1 hy2 hy3 hy4 hy5 hy6 hy7
  go_upto_region 5 with ((with_reducible show wpList _ _ _ (⟨some 29, _, _, _, _, _⟩ :: _) _ _); refine wpList_append_list rfl (.tmp 26) (.tmp 28) _ rfl Try.underlying33 J0.out J1.out rfl J2.out (by decide) J3.out (by decide) rfl (World.ownsRow_nil q4 q4.heap.size _ _) rfl YL.out Y4.out Y7.out Y6.out (by have := HL.out; omega) (Nat.le_refl _) ?_; intro v5 w5 hown5 hgrow5; rw [Nat.zero_add, List.nil_append] at hown5; obtain ⟨B5, d5, rfl⟩ := own_sliceN hown5; have O5 := Lib.hid (own_one (R := JoinR) (sz := 2) joinF hown5 HN.out.2.2 Y1.out Y2.out Y3.out (by have := HL.out; unfold maxLen; omega)); have G5 : Hid (Below q4.heap.size q4 w5) := Lib.hid ((Below.refl _ q4).grown hgrow5 (Nat.le_refl _) (fun k hk => by cases hk)); clear hown5 hgrow5; have Z3 := Lib.hid ((G5.out.block _ (heap_lt X3.out)).trans X3.out); have z5 := frozen2_of Z3.out 5; obtain ⟨e0, e1, e2, e3, e4, e5, e6⟩ := cell7_of Z3.out)
  clear k0 k1 k2 k3 k4 k5 k6 m0 m1 m2 m3 m4 m5 m6 e0 e1 e2 e3 e4 e5 e6 z5 Y1 Y2 Y3 Y4 Y6 Y7 YL
  have hg5 := grown_setK w5 (w.heap.size + 2) 5 (.slice B5 n5 d5)
  have t3 : (w5.setCell ⟨w.heap.size + 2, 5, none⟩ (.slice B5 n5 d5)).heap[w.heap.size + 2]? = some (.cells #[.int .i64 r.id, .int .i64 r.entry, .int .i64 r.exit, .slice B3 n3 d3, .slice B4 n4 d4, .slice B5 n5 d5, .int .i64 r.timer] 35 (0, 0)) := heap_setK (k := 5) Z3.out _
  have t1 := (heap_setFar w5 (w.heap.size + 2) 5 w.heap.size (.slice B5 n5 d5) (by omega)).trans ((G5.out.block _ (heap_lt X1.out)).trans X1.out)
  have t2 := (heap_setFar w5 (w.heap.size + 2) 5 (w.heap.size + 1) (.slice B5 n5 d5) (by omega)).trans ((G5.out.block _ (heap_lt X2.out)).trans X2.out)
  have tb := below_set (QB.out.trans (G5.out.mono QB.out.size)) (show w.heap.size ≤ w.heap.size + 2 by omega) 5 (.slice B5 n5 d5)
  have ts : w.heap.size + 3 ≤ (w5.setCell ⟨w.heap.size + 2, 5, none⟩ (.slice B5 n5 d5)).heap.size := by have := G5.out.size; have := hg5.size; have := QS.out; omega
  have tO5 : ListOwn 86 2 JoinR (w5.setCell ⟨w.heap.size + 2, 5, none⟩ (.slice B5 n5 d5)) (w.heap.size + 3) (.slice B5 n5 d5) r.flanks := own_kept (R := JoinR) joinF (O5.out.mono (by have := QS.out; omega)) hg5 (fun k hk => by have := own_lo O5.out k hk; have := QS.out; omega)
  have tO3 := own_kept (R := IntR) intF (O3.out.below intR G5.out) hg5 (fun k hk => by have := own_lo O3.out k hk; omega)
  have tO4 := own_kept (R := IntR) intF (O4.out.below intR G5.out) hg5 (fun k hk => by have := own_lo O4.out k hk; omega)
  clear QS QB X1 X2 X3 Z3 G5 hg5 O3 O4 O5
  generalize w5.setCell ⟨w.heap.size + 2, 5, none⟩ (.slice B5 n5 d5) = q5 at t1 t2 t3 tb ts tO3 tO4 tO5 ⊢
  have X1 := Lib.hid t1
  have X2 := Lib.hid t2
  have X3 := Lib.hid t3
  have QB := Lib.hid tb
  have QS := Lib.hid ts
  have O3 := Lib.hid tO3
  have O4 := Lib.hid tO4
  have O5 := Lib.hid tO5
  clear t1 t2 t3 tb ts tO3 tO4 tO5
  obtain ⟨m0, m1, m2, m3, m4, m5, m6⟩ := cell7_of X3.out
  go_wp2_with ((with_reducible show wpList _ _ _ (⟨none, _, _, _, _, _⟩ :: _) _ _); refine wpList_store_rowS rfl _ (.tmp 2) (.tmp 31) rfl (w.heap.size + 1) rfl (c' := #[.int .i64 r.id, .int .i64 r.entry, .int .i64 r.exit, .slice B3 n3 d3, .slice B4 n4 d4, .slice B5 n5 d5, .int .i64 r.timer]) rfl X2.out infoRoute7 rfl (by simp [Value.oneCell']) ?_)
  refine bodyPost_ret (results_cell_row rfl _ _ (w.heap.size + 1) 35 #[.int .i64 r.id, .int .i64 r.entry, .int .i64 r.exit, .slice B3 n3 d3, .slice B4 n4 d4, .slice B5 n5 d5, .int .i64 r.timer] (0, 0) _ rfl (setRow_heap _ _ _ _ _ _ X2.out) Try.underlying35 rfl infoRoute7) rfl ⟨_, _, _, rfl, ?_, below_setRow QB.out (Nat.le_succ _) _⟩
  have hg := grownBy_setRow q5 (w.heap.size + 1) #[.int .i64 r.id, .int .i64 r.entry, .int .i64 r.exit, .slice B3 n3 d3, .slice B4 n4 d4, .slice B5 n5 d5, .int .i64 r.timer]
  exact ⟨(own_kept (R := IntR) intF O3.out hg (fun k hk => by have := own_lo O3.out k hk; omega)).mono (by omega), (own_kept (R := IntR) intF O4.out hg (fun k hk => by have := own_lo O4.out k hk; omega)).mono (by omega), (own_kept (R := JoinR) joinF O5.out hg (fun k hk => by have := own_lo O5.out k hk; omega)).mono (by omega)⟩
end Go.Proofs.Ythlolpflgninjaa
