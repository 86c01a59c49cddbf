/-
  The document's own functions Twin, Through, Out of package track.
  Conditions: at most a thousand ends.
-/
import Derived.Test.YthlolpflgninjaaTrkRefC
import Derived.Test.YthlolpflgninjaaAppends
set_option linter.unusedVariables false
set_option linter.unusedSimpArgs false
set_option maxRecDepth 100000
namespace Go.Proofs.Ythlolpflgninjaa
open Go.RowKit

theorem heap_setK {W : World} {b k : Nat} {cur : Array Value} {t : TypeId} {fr : Nat × Nat} (h : W.heap[b]? = some (.cells cur t fr)) (x : Value) : (W.setCell ⟨b, k, none⟩ x).heap[b]? = some (.cells (cur.setIfInBounds k x) t fr) := by
  simp only [World.setCell, Array.getElem?_modify, if_true, h, Option.map_some]
  rfl
theorem grown_setK (W : World) (b k : Nat) (x : Value) : W.grownBy (W.setCell ⟨b, k, none⟩ x) (some b) := grown_set W b k x
theorem heap_set3 {W : World} {b : Nat} {c0 c1 c2 : Value} {t : TypeId} (h : W.heap[b]? = some (.cells #[c0, c1, c2] t (0, 0))) (x y z : Value) : (((W.setCell ⟨b, 0, none⟩ x).setCell ⟨b, 1, none⟩ y).setCell ⟨b, 2, none⟩ z).heap[b]? = some (.cells #[x, y, z] t (0, 0)) :=
  heap_setK (heap_setK (heap_setK h x) y) z
theorem grown_set3 (W : World) (b : Nat) (x y z : Value) : W.grownBy (((W.setCell ⟨b, 0, none⟩ x).setCell ⟨b, 1, none⟩ y).setCell ⟨b, 2, none⟩ z) (some b) :=
  grown_trans (grown_trans (grown_set W b 0 x) (grown_set _ b 1 y)) (grown_set _ b 2 z)
theorem below_set3 {B b : Nat} {w W : World} (h : Below B w W) (hb : B ≤ b) (x y z : Value) : Below B w (((W.setCell ⟨b, 0, none⟩ x).setCell ⟨b, 1, none⟩ y).setCell ⟨b, 2, none⟩ z) :=
  below_set (below_set (below_set h hb 0 x) hb 1 y) hb 2 z
theorem results_cell_3 {P : Program} {fn : Func} {p : Tmp} {ty : TypeId} (h : fn.results = #[.cell p ty]) (tmps : Array Value) (w : World) (g : Nat) {v1 v2 v3 : Value} {t : TypeId} (hp : tmps.getD p undef = .pointer (some ⟨g, 0, none⟩)) (hb : w.heap[g]? = some (.cells #[v1, v2, v3] t (0, 0)))
    {fs : Array Field} (hu : P.underlying ty = some (.struct fs)) (hi : (P.info? ty).map (·.size) = some 3) : (results fn tmps).run P w = .ok (.agg #[v1, v2, v3]) w :=
  results_cell_row h tmps w g t #[v1, v2, v3] (0, 0) _ hp hb hu rfl (by simpa using hi)
theorem results_3_tmp {P : Program} {fn : Func} {p u : Tmp} {ty : TypeId} (h : fn.results = #[.cell p ty, .tmp u]) (tmps : Array Value) (w : World) (g : Nat) {v1 v2 v3 : Value} {t : TypeId} {fr : Nat × Nat} (hp : tmps.getD p undef = .pointer (some ⟨g, 0, none⟩)) (hb : w.heap[g]? = some (.cells #[v1, v2, v3] t fr))
    {fs : Array Field} (hu : P.underlying ty = some (.struct fs)) (hi : (P.info? ty).map (·.size) = some 3) (x : Value) (hx : tmps.getD u undef = x) : (results fn tmps).run P w = .ok (.tuple #[.agg #[v1, v2, v3], x]) w := by
  have hp' : tmps[p]?.getD undef = .pointer (some ⟨g, 0, none⟩) := by simpa using hp
  rw [results_cell_tmp h, hp, hx]
  simp [asAddr, run_loadVar_row w g t ty #[v1, v2, v3] fr _ hb hu rfl (by simpa using hi)]
theorem infoSec3 : (Try.prog.info? 64).map (·.size) = some 3 := by kernel_rfl
theorem infoJoin : (Try.prog.info? 66).map (fun i => (i.zero, i.size, i.bytes)) = some (some (.agg #[.int .i64 0, .int .i64 0]), 2, 16) := by kernel_rfl
theorem infoSec : (Try.prog.info? 64).map (fun i => (i.zero, i.size, i.bytes)) = some (some (.agg #[.int .i64 0, .int .i64 0, .slice none 0 0]), 3, 40) := by kernel_rfl
theorem joinR_full {W : World} {B : Nat} (c : Nat → Option Value) (x : Jn) (h : JoinR W B c x) : ∀ k, k < 2 → ∃ v, c k = some v ∧ v.oneCell' = true := fun k hk => by
  match k, hk with
  | 0, _ => exact ⟨_, h.1, rfl⟩
  | 1, _ => exact ⟨_, h.2, rfl⟩
/-- Joins of the call's own. -/
abbrev JoinsOwn (W : World) (lo : Nat) (v : Value) (l : List Jn) : Prop := ListOwn 66 2 JoinR W lo v l
theorem JoinsOwn.sec {W : World} {lo : Nat} {u : Value} {id pt : Int} {l : List Jn} (h : JoinsOwn W lo u l) : SecV W W.heap.size (.agg #[.int .i64 id, .int .i64 pt, u]) (id, pt, l) :=
  ⟨u, rfl, h.in_ joinR_cells⟩
theorem ListOwn.slice {α : Type} {T : TypeId} {sz : Nat} {R : El α} {W : World} {lo : Nat} {v : Value} {xs : List α} (h : ListOwn T sz R W lo v xs) : ∃ A c, v = .slice A xs.length c := by
  obtain ⟨yss, ho, _⟩ := h
  exact own_sliceN ho

set_option maxHeartbeats 4000000 in
theorem rtwin7_any (v : Value) (s : Sec) (w : World) (h : SecV w w.heap.size v s) (hl : s.2.2.length ≤ 1000) :
    Calls Try.prog 36 #[v] w fun e w' => ∃ u, e = .returned (.agg #[.int .i64 s.1, .int .i64 s.2.1, u]) ∧ JoinsOwn w' w.heap.size u s.2.2 ∧ Below w.heap.size w w' := by
  obtain ⟨u, rfl, hu⟩ := h
  have HU := Lib.hid hu
  obtain ⟨A, c, rfl, -, -⟩ := hu.slice
  obtain ⟨id, pt, l⟩ := s
  dsimp only at HU hl ⊢
  obtain ⟨i0, hi, hz0, hz1, hz2⟩ := info_parts infoJoin
  have I0 := Lib.hid hi
  have I1 := Lib.hid hz0
  have I2 := Lib.hid hz1
  have I3 := Lib.hid hz2
  clear hi hz0 hz1 hz2 hu
  obtain ⟨n, hn⟩ : ∃ n, n = l.length := ⟨_, rfl⟩
  have HN := Lib.hid hn
  have HL : Hid (n ≤ 1000) := Lib.hid (by omega)
  have hq := two_boxes w (.cells #[.int .i64 id, .int .i64 pt, .slice A n c] 64) (.cells #[.int .i64 0, .int .i64 0, .slice none 0 0] 64)
  have HA : Hid (JoinsIn w w.heap.size (.slice A n c) l) := Lib.hid (by rw [hn]; exact HU.out)
  rw [← hn]
  clear hn HU hl
  go_enter Try.func36, Try.ntmps36
  go_upto_region 2 with fail
  have hqs : ((w.alloc (.cells #[.int .i64 id, .int .i64 pt, .slice A n c] 64)).alloc (.cells #[.int .i64 0, .int .i64 0, .slice none 0 0] 64)).heap.size = w.heap.size + 2 := by simp
  generalize (w.alloc (.cells #[.int .i64 id, .int .i64 pt, .slice A n c] 64)).alloc (.cells #[.int .i64 0, .int .i64 0, .slice none 0 0] 64) = q at hq hqs ⊢
  obtain ⟨q0, q1, qb⟩ := hq
  have X0 := Lib.hid q0
  have X1 := Lib.hid q1
  have QB := Lib.hid qb
  have QS := Lib.hid hqs
  obtain ⟨yss, hy1, hy2, hy3, hy4, hy5, hy6, hy7⟩ := ((HA.out.below joinR QB.out).more joinR QB.out.size).cells (by omega) joinR_full joinR_cells
  have Y1 := Lib.hid hy1
  have Y2 := Lib.hid hy2
  have Y3 := Lib.hid hy3
  have Y4 := Lib.hid hy4
  have Y6 := Lib.hid hy6
  have Y7 := Lib.hid hy7
  have YL : Hid (yss.flatten.length = n * 2) := Lib.hid (by rw [flat_length _ hy2, hy1, HN.out])
  obtain ⟨k0, k1, k2⟩ := cell3_of X0.out
  clear q0 q1 qb hqs hy1 hy2 hy3 hy4 hy5 hy6 hy7
  go_upto_region 3 with ((with_reducible show wpList _ _ _ (⟨some 7, _, _, _, _, _⟩ :: _) _ _); refine wpList_append_list rfl (.tmp 4) (.tmp 6) _ rfl Try.underlying62 I0.out I1.out rfl I2.out (by decide) I3.out (by decide) rfl (World.ownsRow_nil q q.heap.size _ _) rfl YL.out Y4.out Y7.out Y6.out (by have := HL.out; omega) (Nat.le_refl _) ?_; intro v4 w4 hown4 hgrow4; rw [Nat.zero_add, List.nil_append] at hown4; obtain ⟨A4, c4, rfl⟩ := own_sliceN hown4; have O4 := Lib.hid hown4; have B4 : Hid (Below q.heap.size q w4) := Lib.hid ((Below.refl _ q).grown hgrow4 (Nat.le_refl _) (fun k hk => by cases hk)); clear hown4 hgrow4; have X04 := Lib.hid ((B4.out.block _ (heap_lt X0.out)).trans X0.out); have X14 := Lib.hid ((B4.out.block _ (heap_lt X1.out)).trans X1.out); obtain ⟨m0, m1, m2⟩ := cell3_of X04.out; have f2 := frozen2_of X04.out 2)
  have hx5 := heap_setK (k := 2) X04.out (.slice A4 n c4)
  have hg5 := grown_setK w4 w.heap.size 2 (.slice A4 n c4)
  have hb5 := below_set (QB.out.trans (B4.out.mono QB.out.size)) (Nat.le_refl w.heap.size) 2 (.slice A4 n c4)
  have ho5 := O4.out.kept hg5 (by
    cases hv : (Value.slice A4 n c4).ownBlock with
    | none => exact .inl rfl
    | some k => refine .inr (fun e => ?_); injection e with e; have := own_ge O4.out _ hv; have := QS.out; omega)
  have hx15 := (hg5.block (w.heap.size + 1) (heap_lt X14.out) (fun e => by injection e with e; omega)).trans X14.out
  generalize w4.setCell ⟨w.heap.size, 2, none⟩ (.slice A4 n c4) = w5 at hx5 hg5 hb5 ho5 hx15 ⊢
  have hx5' : w5.heap[w.heap.size]? = some (.cells #[.int .i64 id, .int .i64 pt, .slice A4 n c4] 64 (0, 0)) := hx5
  have X15 := Lib.hid hx15
  have O5 := Lib.hid ho5
  have B5 := Lib.hid hb5
  clear k0 k1 k2 m0 m1 m2 f2 hg5 hb5 ho5 hx5
  obtain ⟨k0, k1, k2⟩ := cell3_of hx5'
  obtain ⟨r0, r1, r2⟩ := cell3_of X15.out
  have f0 := frozen2_of X15.out 0
  have f1 := frozen2_of X15.out 1
  have f2 := frozen2_of X15.out 2
  clear hx5' hx15
  go_wp2_with fail
  refine bodyPost_ret (v := .agg #[.int .i64 id, .int .i64 pt, .slice A4 n c4]) ?_ rfl ⟨_, rfl, ?_, below_set3 B5.out (Nat.le_succ _) _ _ _⟩
  · exact results_cell_3 rfl _ _ (w.heap.size + 1) rfl (heap_set3 X15.out _ _ _) Try.underlying64 infoSec3
  · have ho6 := O5.out.kept (grown_set3 w5 (w.heap.size + 1) (.int .i64 id) (.int .i64 pt) (.slice A4 n c4)) (by
      cases hv : (Value.slice A4 n c4).ownBlock with
      | none => exact .inl rfl
      | some k => refine .inr (fun e => ?_); injection e with e; have := own_ge O5.out _ hv; have := QS.out; omega)
    exact ⟨yss, by rw [← HN.out]; exact owns_mono ho6 (by have := QS.out; omega), Y1.out, by rw [← HN.out]; have := HL.out; unfold maxLen; omega, Y2.out, fun j ys x h1 h2 => Y3.out j ys x h1 h2⟩
end Go.Proofs.Ythlolpflgninjaa
