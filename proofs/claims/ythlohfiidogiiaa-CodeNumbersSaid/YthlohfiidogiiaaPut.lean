/-
  What the program's Put answers: for a number from 0 to 2147483647 its bytes, in memory of the call's own; for another one the error for a bad argument.
  Conditions: the number fits an int.
-/
import Derived.Test.YthlohfiidogiiaaDigits
import Derived.Test.YthlohfiidogiiaaTxt
import Derived.Maps.AppendAt
import Derived.Deep.DeepMust
set_option linter.unusedVariables false
set_option linter.unusedSimpArgs false
namespace Go.Proofs.Ythlohfiidogiiaa
open Go.RowKit Go.Shelf

attribute [local go_sem] Oper.semAt_some



theorem infoByte : (Try.prog.info? 5).map (fun i => (i.zero, i.size, i.bytes)) = some (some (.int .u8 0), 1, 1) := by kernel_rfl

/-- The bytes collected so far, and the iterator's box. -/
def Col (n₀ B bn : Nat) (pre : List (Int × Bool)) (W : World) : Prop :=
  (∃ v, Boxed W B 25 v ∧ W.ownsRow n₀ 5 1 v pre.length (pre.map fun x => u8 (byt x))) ∧ ∃ u, Boxed W bn 3 u

theorem Col.own (n₀ B bn : Nat) : Own (Col n₀ B bn) := by
  rintro s X Y row ⟨⟨v, hv, hr⟩, u, hu⟩ hg hrow
  have nb : ∀ {k t v}, Boxed X k t v → some k ≠ row := fun hk e => by
    obtain ⟨o, ho, hc⟩ := hrow _ e.symm
    rw [show X.heap[_]? = _ from hk] at ho; cases ho; cases hc
  refine ⟨⟨v, hv.kept hg (nb hv), hr.kept hg ?_⟩, u, hu.kept hg (nb hu)⟩
  rcases hr.2 with ⟨rfl, _⟩ | ⟨g, cap, cur, rfl, _, hgb, _⟩
  · exact .inl rfl
  · refine .inr fun e' => ?_
    obtain ⟨o, ho, hc⟩ := hrow g (by simpa [Value.ownBlock] using e'.symm)
    rw [hgb] at ho; cases ho; cases hc

theorem Col.box {n₀ B bn : Nat} {pre : List (Int × Bool)} {W : World} (hne : B ≠ bn) (v : Value) (h : Col n₀ B bn pre W) : Col n₀ B bn pre (W.setCell ⟨bn, 0, none⟩ v) := by
  obtain ⟨⟨x, hx, hr⟩, u, hu⟩ := h
  exact ⟨⟨x, hx.kept (grownBy_setCell' W bn v) (fun e => hne (by injection e)), hr.kept (grownBy_setCell' W bn v) (.inr (fun e => (hu.not_row (by decide) hr) e.symm))⟩, v, hu.set v⟩

theorem keepsBox_appended {W w1 : World} {n₀ B bn : Nat} {t e : TypeId} {size k : Nat} {v : Value} {xs : List Value} {tmp : Obj} (hte : t ≠ e) (hrow : W.ownsRow n₀ e size v k xs) (hgrow : (W.alloc tmp).grownBy w1 v.ownBlock) (hne : bn ≠ B) (v' : Value) :
    KeepsBox bn t W (w1.setCell ⟨B, 0, none⟩ v') := fun _ h =>
  ((h.alloc tmp).kept hgrow (h.not_row hte hrow)).kept (grownBy_setCell' w1 B v') (fun e => hne (by injection e))

theorem u8_last {x : Int × Bool} (h0 : 0 ≤ x.1) (h1 : x.1 < 128) (h : x.2 = true) : u8 (byt x) = .int .u8 x.1 := by
  have e : ((x.1.toNat % 256 : Nat) : Int) = x.1 := by omega
  simp [u8, byt, h, UInt8.toNat_ofNat', e]
theorem u8_more {x : Int × Bool} (h0 : 0 ≤ x.1) (h1 : x.1 < 128) (h : x.2 = false) : u8 (byt x) = .int .u8 (x.1 + 128) := by
  have e : (((x.1 + 128).toNat % 256 : Nat) : Int) = x.1 + 128 := by omega
  simp [u8, byt, h, UInt8.toNat_ofNat', e]

set_option maxRecDepth 100000 in
set_option maxHeartbeats 2000000 in
theorem put_in (F : Fence) (n : Nat) (hf : F.fn 13) (hf1 : F.fn 19) (hf2 : F.fn 23) (hro : F.round = none) (hn : 3 ≤ n) (N : Nat) (hN : N ≤ 2147483647) (w : World) :
    CallsIn F n Try.prog 13 #[.int .i64 N] w fun e W' => ∃ v, e = .returned (.tuple #[v, .int .i64 0]) ∧ W'.ownsRow w.heap.size 5 1 v (bytesOf N).length ((bytesOf N).map u8) ∧ Below w.heap.size w W' := by
  have h1 : 1 ≤ n := by omega
  obtain ⟨i0, hi, hz0, hz1, hz2⟩ := info_parts infoByte
  have g1 : decide ((N : Int) < 0) = false := decide_eq_false (by omega)
  have g2 : decide (2147483647 < (N : Int)) = false := decide_eq_false (by omega)
  refine callsIn_of_wp_marks Try.func13 rfl hf ?_ hro
  simp only [Try.ntmps13, List.size_toArray, List.length_cons, List.length_nil, Nat.reduceAdd, Nat.reduceSub, Array.replicate_succ, Array.replicate_zero, List.push_toArray, List.append_toArray, List.nil_append, List.cons_append]
  gi_wp2_with (gi_at_call 19; refine (digits_in F (n - 1) hf1 hro _ _).mono ?_; rintro e w' ⟨rfl, rfl⟩)
  have bO := Boxed.new w 25 (.slice none 0 0)
  have bN := Boxed.new (w.alloc (.cells #[.slice none 0 0] 25)) 3 (.int .i64 N)
  rw [World.size_alloc] at bN
  have hB0 : Below w.heap.size w ((w.alloc (.cells #[.slice none 0 0] 25)).alloc (.cells #[.int .i64 N] 3)) := ((Below.refl _ w).alloc (Nat.le_refl _) _).alloc (by simp) _
  refine range_box hro h1 (gf := 23) (lb := #[.pointer (some ⟨w.heap.size + 1, 0, none⟩)]) rfl hf2 (enters_of Try.func23 (by kernel_rfl) rfl)
    (encs := fun x : Int × Bool => #[.int .i64 x.1, .bool x.2]) (bn := w.heap.size + 1) (t := 3) (xs := upto (dg N) 5)
    (fun l J Jx W hW hJ hY h0 => digits1_in F (n - 1) hf2 hro (by omega) l (w.heap.size + 1) N (by omega) J Jx hJ hY W ((hW.block _ (by simp)).trans bN) h0) (fun _ => rfl)
    (fun pre W => (Col w.heap.size w.heap.size (w.heap.size + 1) pre W ∧ Below w.heap.size w W) ∧ ∀ i, i < pre.length → (dg N i).2 = false)
    (fun c pre W => (Col w.heap.size w.heap.size (w.heap.size + 1) pre W ∧ Below w.heap.size w W) ∧ ∃ k, pre.length = k + 1 ∧ (dg N k).2 = true ∧ (∀ i, i < k → (dg N i).2 = false) ∧ c = .exit 0)
    (OwnFrom.and (OwnFrom.and ((Col.own _ _ _).from _) (ownFrom_below (Nat.le_refl _) (by simp; omega))) (fun _ _ _ _ h _ _ => h))
    (fun _ => OwnFrom.and (OwnFrom.and ((Col.own _ _ _).from _) (ownFrom_below (Nat.le_refl _) (by simp; omega))) (fun _ _ _ _ h _ _ => h))
    (fun s A v h => ⟨⟨h.1.1.box (by omega) v, h.1.2.setCell (p := ⟨w.heap.size + 1, 0, none⟩) (by simp) v⟩, h.2⟩)
    ⟨⟨⟨⟨_, bO.alloc _, World.ownsRow_nil _ _ _ _⟩, _, bN⟩, hB0⟩, fun _ h => absurd h (by simp)⟩
    (fun x => { tmps := #[.int .i64 N, undef, .slice none 0 0, .int .i64 0, .pointer (some ⟨w.heap.size, 0, none⟩), .int .i64 x.1, .bool x.2, .int .i64 N, .bool false, .bool false, .int .i64 N, .bool false, .bool false, .int .i64 N,
      .func (.func 23) #[] #[.pointer (some ⟨w.heap.size + 1, 0, none⟩)], .int .i64 x.1, .bool x.2, undef, undef, undef, undef, undef, undef, undef, undef, undef, undef, undef, undef, undef], defers := [] }) ?assign ?body ?done ?stop
  case assign =>
    intro l x W K hK
    gi_wp2
    exact hK
  case body =>
    rintro l pre x W ⟨⟨⟨⟨v, hv, hrow⟩, u, hu⟩, hB⟩, hlast⟩ hx
    obtain ⟨hlen, hpre, rfl⟩ := prefix_snoc_upto _ hx
    clear hpre hx
    have hrg := dg_range N pre.length
    have hc := hv.cell
    have hB' := hB.size
    cases hl : (dg N pre.length).2
    · have hval := u8_more hrg.1 hrg.2 hl
      generalize hd : (dg N pre.length).1 = d at *
      gi_wp2_with (gi_at_builtin; go_must (refine wpListIn_append_own _ rfl _ _ 25 rfl w.heap.size 5 i0 (.int .u8 0) 1 1 Try.underlying25 hi hz0 hz1 hz2 rfl (by decide) _ _ _ rfl (hrow.alloc _) ⟨W.heap.size, 0, none⟩ 1 1 [.int .u8 (d + 128)] rfl rfl (cell_one_new _ _ _) (by simp [Value.oneCell']) (by unfold maxLen; omega) (by omega) (by simp; omega) ?_; intro v' w1 hown' hgrow _; obtain ⟨g', cap', rfl⟩ := ownsRow_succ hown'; obtain ⟨hv1, hv2, hr2, hk2, hb2⟩ := hv.appended (by decide) hrow hB.size (Nat.le_refl _) hown' hgrow; have hkb := keepsBox_appended (B := w.heap.size) (bn := w.heap.size + 1) (t := 3) (by decide) hrow hgrow (by omega) (.slice (some ⟨g', 0, none⟩) (pre.length + 1) cap'); have hc1 := hv1.cell; have hf1 := hv1.frozen))
      refine ⟨hk2, hkb, ⟨⟨⟨_, hv2, ?_⟩, _, hkb _ hu⟩, hB.trans hb2⟩, fun i hi' => ?_⟩
      · simpa [hval] using hr2
      · by_cases e : i = pre.length
        · subst e; exact hl
        · exact hlast i (by simp at hi'; omega)
    · have hval := u8_last hrg.1 hrg.2 hl
      generalize hd : (dg N pre.length).1 = d at *
      gi_wp2_with (gi_at_builtin; go_must (refine wpListIn_append_own _ rfl _ _ 25 rfl w.heap.size 5 i0 (.int .u8 0) 1 1 Try.underlying25 hi hz0 hz1 hz2 rfl (by decide) _ _ _ rfl (hrow.alloc _) ⟨W.heap.size, 0, none⟩ 1 1 [.int .u8 d] rfl rfl (cell_one_new _ _ _) (by simp [Value.oneCell']) (by unfold maxLen; omega) (by omega) (by simp; omega) ?_; intro v' w1 hown' hgrow _; obtain ⟨g', cap', rfl⟩ := ownsRow_succ hown'; obtain ⟨hv1, hv2, hr2, hk2, hb2⟩ := hv.appended (by decide) hrow hB.size (Nat.le_refl _) hown' hgrow; have hkb := keepsBox_appended (B := w.heap.size) (bn := w.heap.size + 1) (t := 3) (by decide) hrow hgrow (by omega) (.slice (some ⟨g', 0, none⟩) (pre.length + 1) cap'); have hc1 := hv1.cell; have hf1 := hv1.frozen))
      refine ⟨hk2, ⟨⟨⟨_, hv2, ?_⟩, _, hkb _ hu⟩, hB.trans hb2⟩, pre.length, by simp, hl, hlast, rfl⟩
      simpa [hval] using hr2
  case done =>
    rintro D W hD h hK
    have h5 := h.2 4 (by rw [upto_length]; omega)
    have h4 := dv_small hN
    simp [dg] at h5
    omega
  case stop =>
    rintro D c pre W hD hpre ⟨⟨⟨⟨v, hv, hrow⟩, u, hu⟩, hB⟩, k, hk, hlk, hfk, rfl⟩ hK
    have hc := hv.cell
    have hbs : pre.map (fun x => u8 (byt x)) = (bytesOf N).map u8 := by
      rw [prefix_upto _ hpre, hk, ← bytesOf_upto k N hlk hfk, List.map_map]; rfl
    have hbl : pre.length = (bytesOf N).length := by simpa using congrArg List.length hbs
    rw [hbs, hbl] at hrow
    gi_wp2
    refine ⟨by simp, .inl ⟨_, _, rfl, run_takeDeferred hK, ?_⟩⟩
    exact ⟨_, results_tmp2 rfl _ _ _, v, rfl, ownsRow_putObj hrow _ hK rfl, hB.trans (belowK_b (w := w) (Nat.le_refl _) W D _ _ (by simp at hD; omega) hK rfl rfl)⟩
end Go.Proofs.Ythlohfiidogiiaa
