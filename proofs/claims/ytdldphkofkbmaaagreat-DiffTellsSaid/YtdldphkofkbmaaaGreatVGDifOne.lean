/-
 The chapter's plans, as the statements of package diff lay them.
 Conditions: none.
-/
import Derived.Test.YtdldphkofkbmaaaGreatVGDifM
import Derived.Test.YtdldphkofkbmaaaGreatVGPlnRefD
import Derived.Test.YtdldphkofkbmaaaGreatVGPlnRefB
import Derived.Test.YtdldphkofkbmaaaGreatVGDifRef
set_option linter.unusedVariables false
set_option linter.unusedSimpArgs false
set_option maxRecDepth 100000
namespace Go.Proofs.YtdldphkofkbmaaaGreat
open Go.RowKit

theorem infoPlan13 : (Tryz.prog.info? 27).map (·.size) = some 6 := by kernel_rfl
theorem OneAt.of {W W' : World} {s : Nat} {A : Option Addr} {t : Int} (h : OneAt W s A t) (hk : ∀ b, s ≤ b → b ≤ s + 7 → W'.heap[b]? = W.heap[b]?) : OneAt W' s A t :=
 ⟨(hk _ (by omega) (by omega)).trans h.r1, (hk _ (by omega) (by omega)).trans h.r2, (hk _ (by omega) (by omega)).trans h.r3, (hk _ (by omega) (by omega)).trans h.r4, (hk _ (by omega) (by omega)).trans h.r5, (hk _ (by omega) (by omega)).trans h.r6, (hk _ (by omega) (by omega)).trans h.r8⟩
/-- The chapter's plan in its blocks, a box p0 for an answer, a box p1 that holds the plan. -/
structure TwoSt (w W : World) (s p0 p1 : Nat) (row : Array Value) (t : Int) : Prop where
 one : OneAt W s (some ⟨s + 6, 0, none⟩) t
 r7 : W.heap[s + 6]? = some (.cells #[.int .i64 2, .int .i64 3] 3 (0, 0))
 x0 : W.heap[p0]? = some (.cells #[.int .i64 0, .int .i64 0, .slice none 0 0, .slice none 0 0, .slice none 0 0, .slice none 0 0] 27 (0, 0))
 x1 : W.heap[p1]? = some (.cells row 27 (0, 0))
 b : Below w.heap.size w W
 lt : w.heap.size ≤ p0 ∧ p0 < s ∧ s + 7 < p1
section
variable {w W W' : World} {s p0 p1 : Nat} {row : Array Value} {t : Int}
theorem TwoSt.set (h : TwoSt w W s p0 p1 row t) (k : Nat) (x : Value) : TwoSt w (W.setCell ⟨p1, k, none⟩ x) s p0 p1 (row.setIfInBounds k x) t := by
 obtain ⟨h1, h2, h3, h4, h5, h6⟩ := h
 exact ⟨h1.of fun b _ _ => heap_setFar W p1 k b x (by omega), (heap_setFar W p1 k _ x (by omega)).trans h2, (heap_setFar W p1 k _ x (by omega)).trans h3, heap_setK h4 x, below_set h5 (by omega) k x, h6⟩
theorem TwoSt.setT (h : TwoSt w W s p0 p1 row t) (z : Int) : TwoSt w (W.setCell ⟨s + 7, 6, none⟩ (.int .i64 z)) s p0 p1 row z := by
 obtain ⟨⟨g1, g2, g3, g4, g5, g6, g7⟩, h2, h3, h4, h5, h6⟩ := h
 have f := fun (b : Nat) (hb : b ≠ s + 7) => heap_setFar W (s + 7) 6 b (.int .i64 z) hb
 exact ⟨⟨(f _ (by omega)).trans g1, (f _ (by omega)).trans g2, (f _ (by omega)).trans g3, (f _ (by omega)).trans g4, (f _ (by omega)).trans g5, (f _ (by omega)).trans g6, heap_setK g7 _⟩, (f _ (by omega)).trans h2, (f _ (by omega)).trans h3, (f _ (by omega)).trans h4, below_set h5 (by omega) 6 _, h6⟩
theorem TwoSt.below (h : TwoSt w W s p0 p1 row t) (hb : Below W.heap.size W W') : TwoSt w W' s p0 p1 row t := by
 obtain ⟨h1, h2, h3, h4, h5, h6⟩ := h
 have hl := heap_lt h4
 exact ⟨h1.of fun b _ _ => hb.block b (by omega), (hb.block _ (by omega)).trans h2, (hb.block _ (by omega)).trans h3, (hb.block _ hl).trans h4, h5.trans (hb.mono h5.size), h6⟩
end
theorem OneAt.planS {W : World} {s : Nat} {A : Option Addr} {t : Int} {l : List Int} (h : OneAt W s A t) (hl : IntsIn W W.heap.size (.slice A 2 2) l) (ver par : Int) {sg : Value} {L : List Sg} (GG : SigsIn W W.heap.size sg L) :
  PlanV W W.heap.size (.agg #[.int .i64 ver, .int .i64 par, .slice (some ⟨s + 3, 0, none⟩) 3 3, .slice (some ⟨s + 4, 0, none⟩) 1 1, sg, .slice (some ⟨s + 7, 0, none⟩) 1 1]) ⟨ver, par, pSecs, [(5, 2)], L, [⟨8, 4, 0, l, [], [], t⟩]⟩ := by
 have J1 : JoinsIn W W.heap.size (.slice (some ⟨s, 0, none⟩) 2 2) pS1.2.2 := list_row (l := [(2, 0), (0, 0)]) h.r1 (by decide) (fun j hj => by
  match j, hj with
  | 0, _ => exact ⟨row_cj _ _ _ 0 _ h.r1 rfl, row_cj _ _ _ 1 _ h.r1 rfl⟩
  | 1, _ => exact ⟨row_cj _ _ _ 2 _ h.r1 rfl, row_cj _ _ _ 3 _ h.r1 rfl⟩)
 have J2 : JoinsIn W W.heap.size (.slice (some ⟨s + 1, 0, none⟩) 3 3) pS2.2.2 := list_row (l := [(1, 0), (3, 0), (3, 1)]) h.r2 (by decide) (fun j hj => by
  match j, hj with
  | 0, _ => exact ⟨row_cj _ _ _ 0 _ h.r2 rfl, row_cj _ _ _ 1 _ h.r2 rfl⟩
  | 1, _ => exact ⟨row_cj _ _ _ 2 _ h.r2 rfl, row_cj _ _ _ 3 _ h.r2 rfl⟩
  | 2, _ => exact ⟨row_cj _ _ _ 4 _ h.r2 rfl, row_cj _ _ _ 5 _ h.r2 rfl⟩)
 have J3 : JoinsIn W W.heap.size (.slice (some ⟨s + 2, 0, none⟩) 2 2) pS3.2.2 := list_row (l := [(2, 1), (2, 2)]) h.r3 (by decide) (fun j hj => by
  match j, hj with
  | 0, _ => exact ⟨row_cj _ _ _ 0 _ h.r3 rfl, row_cj _ _ _ 1 _ h.r3 rfl⟩
  | 1, _ => exact ⟨row_cj _ _ _ 2 _ h.r3 rfl, row_cj _ _ _ 3 _ h.r3 rfl⟩)
 have SS : SectsIn W W.heap.size (.slice (some ⟨s + 3, 0, none⟩) 3 3) pSecs := list_row (l := pSecs) h.r4 (by decide) (fun j hj => by
  match j, hj with
  | 0, _ => exact ⟨row_cj _ _ _ 0 _ h.r4 rfl, row_cj _ _ _ 1 _ h.r4 rfl, _, row_cj _ _ _ 2 _ h.r4 rfl, J1⟩
  | 1, _ => exact ⟨row_cj _ _ _ 3 _ h.r4 rfl, row_cj _ _ _ 4 _ h.r4 rfl, _, row_cj _ _ _ 5 _ h.r4 rfl, J2⟩
  | 2, _ => exact ⟨row_cj _ _ _ 6 _ h.r4 rfl, row_cj _ _ _ 7 _ h.r4 rfl, _, row_cj _ _ _ 8 _ h.r4 rfl, J3⟩)
 have PP : JoinsIn W W.heap.size (.slice (some ⟨s + 4, 0, none⟩) 1 1) [(5, 2)] := list_row (l := [(5, 2)]) h.r5 (by decide) (fun j hj => by
  match j, hj with
  | 0, _ => exact ⟨row_cj _ _ _ 0 _ h.r5 rfl, row_cj _ _ _ 1 _ h.r5 rfl⟩)
 have RR : RoutesIn W W.heap.size (.slice (some ⟨s + 7, 0, none⟩) 1 1) [⟨8, 4, 0, l, [], [], t⟩] := list_row (l := [(⟨8, 4, 0, l, [], [], t⟩ : Rt)]) h.r8 (by simp) (fun j hj => by
  match j, hj with
  | 0, _ => exact ⟨row_cj _ _ _ 0 _ h.r8 rfl, row_cj _ _ _ 1 _ h.r8 rfl, row_cj _ _ _ 2 _ h.r8 rfl, row_cj _ _ _ 6 _ h.r8 rfl, _, _, _, row_cj _ _ _ 3 _ h.r8 rfl, row_cj _ _ _ 4 _ h.r8 rfl, row_cj _ _ _ 5 _ h.r8 rfl, ⟨hl, ListIn.nil_, ListIn.nil_⟩⟩)
 exact ⟨_, _, _, _, rfl, ⟨SS, PP, GG, RR⟩⟩
theorem row2_sigs {W : World} {lo : Nat} {v : Value} (h : W.ownsRow lo 78 3 v 2 [.int .i64 4, .int .i64 1, .int .i64 0, .int .i64 7, .int .i64 3, .int .i64 0]) : SigsIn W W.heap.size v [(4, 1, 0), (7, 3, 0)] :=
 ListOwn.in_ (T := 78) (lo := lo) sigR_cells ⟨[[.int .i64 4, .int .i64 1, .int .i64 0], [.int .i64 7, .int .i64 3, .int .i64 0]], h, rfl, by unfold maxLen; simp, by simp, fun j ys x h1 h2 => by
  match j, h1, h2 with
  | 0, h1, h2 => cases h1; cases h2; exact ⟨rfl, rfl, rfl⟩
  | 1, h1, h2 => cases h1; cases h2; exact ⟨rfl, rfl, rfl⟩⟩
theorem own_set {W : World} {lo p : Nat} {T : TypeId} {sz n : Nat} {v : Value} {ys : List Value} (h : W.ownsRow lo T sz v n ys) (hp : p < lo) (k : Nat) (x : Value) : (W.setCell ⟨p, k, none⟩ x).ownsRow lo T sz v n ys := by
 obtain ⟨h1, h2⟩ := h
 refine ⟨h1, ?_⟩
 rcases h2 with h2 | ⟨g, cap, cur, a1, a2, a3, a4⟩
 ·exact .inl h2
 ·exact .inr ⟨g, cap, cur, a1, a2, (heap_setFar W p k g x (by omega)).trans a3, a4⟩
theorem own_setRow {W : World} {lo p : Nat} {T : TypeId} {sz n : Nat} {v : Value} {ys : List Value} (h : W.ownsRow lo T sz v n ys) (hp : p < lo) (c : Array Value) : (W.setRow p c).ownsRow lo T sz v n ys := by
 obtain ⟨h1, h2⟩ := h
 refine ⟨h1, ?_⟩
 rcases h2 with h2 | ⟨g, cap, cur, a1, a2, a3, a4⟩
 ·exact .inl h2
 ·exact .inr ⟨g, cap, cur, a1, a2, ((grownBy_setRow W p c).block g (heap_lt a3) (fun e => by injection e; omega)).trans a3, a4⟩
theorem sig_own1 {W : World} {g lo : Nat} {a b c : Int} (h : W.heap[g]? = some (.cells #[.int .i64 a, .int .i64 b, .int .i64 c] 78 (0, 0))) (hl : lo ≤ g) : W.ownsRow lo 78 3 (.slice (some ⟨g, 0, none⟩) 1 1) 1 [.int .i64 a, .int .i64 b, .int .i64 c] :=
 ⟨rfl, .inr ⟨g, 1, _, rfl, hl, h, Nat.le_refl _, by unfold maxLen; omega, by simp, by simp⟩⟩

theorem drewN13 (w : World) (n : Nat) : Below w.heap.size w (w.drewN n) := ⟨rfl, rfl, rfl, Nat.le_refl _, fun _ _ => rfl⟩
theorem diff_eq13 (a b c d e f : Int) (w : World) : (Op.equalIn 10000 41 (.agg #[.int .u8 a, .int .i64 b, .int .u8 c]) (.agg #[.int .u8 d, .int .i64 e, .int .u8 f])).run Tryz.prog w = .ok ((a == d) && ((b == e) && (c == f))) w := by
 have hagg : (isAgg 3).run Tryz.prog w = .ok false w := by
  unfold isAgg
  rw [Sem.run_bind, run_underlying Tryz.underlying3 w]
  simp
 have hagg8 : (isAgg 5).run Tryz.prog w = .ok false w := by
  unfold isAgg
  rw [Sem.run_bind, run_underlying Tryz.underlying5 w]
  simp
 rw [run_equalIn_agg w 9999 41 _ _ (by rw [Program.fieldsOf, Tryz.underlying41]) (by kernel_rfl)]
 simp only [Program.fieldsOf, Tryz.underlying41, Op.eqFields]
 have hi : ∀ x y : Int, (Op.equalIn 9999 3 (.int .i64 x) (.int .i64 y)).run Tryz.prog w = .ok (x == y) w := fun x y => run_equalIn_int w 9998 3 .i64 .i64 x y Tryz.underlying3
 have hj : ∀ x y : Int, (Op.equalIn 9999 5 (.int .u8 x) (.int .u8 y)).run Tryz.prog w = .ok (x == y) w := fun x y => run_equalIn_int w 9998 5 .u8 .u8 x y Tryz.underlying5
 by_cases h1 : a = d <;> by_cases h2 : b = e <;> by_cases h3 : c = f <;> simp [part, Sem.run_bind, Sem.run_ite, hagg, hagg8, hi, hj, h1, h2, h3]
theorem diff_self13 (a b c : Int) (w : World) : (Op.equalIn 10000 41 (.agg #[.int .u8 a, .int .i64 b, .int .u8 c]) (.agg #[.int .u8 a, .int .i64 b, .int .u8 c])).run Tryz.prog w = .ok true w := by
 rw [diff_eq13]
 simp
end Go.Proofs.YtdldphkofkbmaaaGreat
