/-
 The program's package diff: a map's keys, collected.
 Conditions: none.
-/
import Derived.RangeFuncNested
import Derived.RangeFuncBound
import Derived.RangeFuncCalls
import Derived.RangeFuncLeaves
import Derived.Shelf.Abstract
import Derived.Shelf.RegionOpen
import Derived.WalkKit
import Derived.OwnWalkIn
import Derived.TacticsInMore
import Derived.LoopNIn
import Derived.LoopIn
import Derived.Test.YtneeocnjfnneoaaGreatVDifPD
import Derived.Test.YtneeocnjfnneoaaGreatVGDifPA
import Derived.Shelf.SlSortCmp.NoneTotal
set_option linter.unusedVariables false
set_option linter.unusedSimpArgs false
set_option maxRecDepth 100000
namespace Go.Proofs.YtneeocnjfnneoaaGreat
open Go.RowKit Go.Shelf
attribute [local go_sem] Oper.semAt_some

def encK (x : K13) : List Value := [.int .u8 x.1, .int .i64 x.2]
theorem encK_len (x : K13) : (encK x).length = 2 := rfl
theorem nodup_le : ∀ (l m : List K13), l.Nodup → (∀ x ∈ l, x ∈ m) → l.length ≤ m.length
 | [], m, _, _ => Nat.zero_le _
 | x :: l, m, hn, h => by
  rw [List.nodup_cons] at hn
  have hx := h x (List.mem_cons_self ..)
  have h1 := nodup_le l (m.erase x) hn.2 fun y hy => (List.mem_erase_of_ne (fun e => by subst e; exact hn.1 hy)).2 (h y (List.mem_cons_of_mem _ hy))
  rw [List.length_erase_of_mem hx] at h1
  have := List.length_pos_of_mem hx
  rw [List.length_cons]
  omega
theorem Iter13.fewer {W : World} {b r cnt : Nat} {es vs : Ents} {p : K13 × Value} (h : Iter13 W b r es (vs ++ [p]) cnt) : vs.length < es.length := by
 obtain ⟨-, seen, c0, -, -, -, -, hsub, hn⟩ := h
 have h1 := nodup_le ((vs ++ [p]).map (fun q : K13 × Value => q.1)) (es.map (fun q : K13 × Value => q.1)) hn fun x hx => by
  obtain ⟨q, hq, rfl⟩ := List.mem_map.1 hx
  exact List.mem_map.2 ⟨q, hsub q hq, rfl⟩
 simp at h1
 omega
theorem Iter13.of_walks {W W' : World} {b r cnt : Nat} {es vs : Ents} (h : Iter13 W b r es vs cnt) (hk : KeepsWalks W W') : Iter13 W' b r es vs cnt := by
 obtain ⟨s, c, q, g1⟩ := h.iter
 have hb : W.heap[b]? = _ := h.map
 exact h.same ((hk.same b _ hb rfl).trans hb.symm) ((hk.same r _ g1 rfl).trans g1.symm)
set_option maxHeartbeats 2000000 in
theorem keys13_in (F : Fence) (n : Nat) (hF : F.fn 91) (hro : F.round = none) (hn : 1 ≤ n) (l Bm b : Nat) (es : Ents) (hnd : KeysNd es) (J Jx : List K13 → World → Prop)
  (hY : ∀ pre x W, J pre W → pre.length < es.length → YieldAt F (n - 1) Tryz.prog l #[.agg #[.int .u8 x.1, .int .i64 x.2]] W fun e W' =>
   (e = .returned (.bool true) ∧ J (pre ++ [x]) W' ∧ KeepsWalks W W') ∨ (e = .returned (.bool false) ∧ Jx (pre ++ [x]) W'))
  (W : World) (hJ : AbidesFrom W.heap.size J) (hm : W.cell? ⟨Bm, 0, none⟩ = some (.map (some b))) (hb : MapB W b es) (h0 : J [] W) :
  CallsIn F n Tryz.prog 91 #[.func (.yield l) #[] #[], .pointer (some ⟨Bm, 0, none⟩)] W fun e W' => (∃ v, e = .returned v) ∧
   ((∃ ks : List K13, ks.Perm (es.map (·.1)) ∧ J ks W') ∨ (∃ pre : List K13, True ∧ Jx pre W')) := by
 refine callsIn_of_wp Tryz.func91 rfl hF ?_ hro
 simp only [Tryz.ntmps91, List.size_toArray, List.length_cons, List.length_nil, Nat.reduceAdd, Nat.reduceSub, Array.replicate_succ, Array.replicate_zero, List.push_toArray, List.append_toArray, List.nil_append, List.cons_append]
 gi_wp2_with (first
  | (gi_at_range; refine wpListIn_range13 _ rfl _ 97 110 rfl Tryz.underlying97 b es rfl hb ?_; intro w0 hi0 hg0 hs0)
  | gi_in)
 go_frame
 gi_loopw [3] (fun _ wr => ∃ (vs : Ents) (cnt : Nat), Iter13 wr b W.heap.size es vs cnt ∧ J (vs.map (·.1)) wr) (fun _ wr => wr.rangeLeft b W.heap.size)
 case atStart =>
  exact ⟨[], _, hi0, hJ [] W w0 none h0 hg0 (fun r e => by cases e)⟩
 case round =>
  obtain ⟨vs, cnt, hit, hJs⟩ := hrel
  gi_wp2_with (first
   | (gi_at_next; refine wpListIn_next13 _ rfl _ rfl b W.heap.size es vs cnt hnd rfl hit ?_ ?_)
   | gi_in)
  ·intro hc0
   subst hc0
   gi_wp2
   go_end0
   exact ⟨⟨_, rfl⟩, .inl ⟨_, (hit.all hnd).map _, hJs⟩⟩
  ·intro kd kid pv w2 cnt2 hpe hpn hi2 hlt hg2 hs2 hen
   have hJ2 : J (vs.map (·.1)) w2 := hJ _ wr w2 (some W.heap.size) hJs hg2 (fun r e => by cases e; obtain ⟨s, c, q, g1⟩ := hit.iter; exact ⟨Nat.le_refl _, _, g1, rfl⟩)
   have hlen := hi2.fewer
   obtain ⟨w3, hw3⟩ : ∃ w3, w3 = w2.alloc (.cells #[.int .u8 kd, .int .i64 kid] 102) := ⟨_, rfl⟩
   have hJ3 : J (vs.map (·.1)) w3 := by rw [hw3]; exact hJ _ w2 _ none hJ2 (World.grownBy_alloc w2 _ none) (fun r e => by cases e)
   have hx3 := heap_alloc_self w2 (.cells #[.int .u8 kd, .int .i64 kid] 102)
   rw [← hw3] at hx3
   obtain ⟨k0, k1⟩ := cell2_of hx3
   have hi3 : Iter13 w3 b W.heap.size es (vs ++ [((kd, kid), pv)]) cnt2 := by rw [hw3]; exact hi2.below (below_new w2 _) hi2.map.lt hi2.lt
   obtain ⟨fn, tmps, assign, body, hy, hR⟩ := hY (vs.map (·.1)) (kd, kid) w3 hJ3 (by simpa using hlen)
   dsimp only at hy
   unfold keyV at hen
   dsimp only at hen
   clear hs2 hx3
   subst hw3
   gi_wp2
   refine hR.mono ?_
   rintro e W3 (⟨rfl, hJ4, hk3⟩ | ⟨rfl, hJx4⟩)
   ·have hi4 := hi3.of_walks hk3
    gi_wp2
    go_roundw
    case rel => exact ⟨_, cnt2, hi4, by rw [List.map_append]; exact hJ4⟩
    case measure => rw [hi4.left_eq, hit.left_eq]; exact hlt
   ·gi_wp2
    refine bodyPost_ret (results_none rfl _ _ _) rfl ?_
    exact ⟨⟨_, rfl⟩, .inr ⟨_, trivial, hJx4⟩⟩
theorem keys13_stops (F : Fence) (n : Nat) (hF : F.fn 91) (hro : F.round = none) (hn : 1 ≤ n) (Bm b : Nat) (es : Ents) (hnd : KeysNd es) (w : World) (hBm : Bm < w.heap.size)
  (hm : w.cell? ⟨Bm, 0, none⟩ = some (.map (some b))) (hb : MapB w b es) :
  SeqStopsK F n Tryz.prog 91 #[.pointer (some ⟨Bm, 0, none⟩)] (fun x : K13 => #[.agg #[.int .u8 x.1, .int .i64 x.2]]) KeepsWalks (fun ks => ks.Perm (es.map (·.1))) (fun _ => True) es.length w := fun l J Jx W hW hJ _ hY h0 =>
 keys13_in F n hF hro hn l Bm b es hnd J Jx hY W hJ ((hW.cell (p := ⟨Bm, 0, none⟩) hBm).trans hm) (hb.below hW hb.lt) h0
theorem others_walks {W W' : World} (h : KeepsOthers W W') : KeepsWalks W W' := ⟨h.size, fun k o hk ho => h.same k o hk (Obj.not_cells_of_walk ho)⟩
theorem infoKeyI : (Tryz.prog.info? 102).map (fun i => (i.zero, i.size, i.bytes)) = some (some (.agg #[.int .u8 0, .int .i64 0]), 2, 16) := by kernel_rfl
theorem cells2_new (W : World) (x y : Value) (T : TypeId) : ∀ (j : Nat) (u : Value), [x, y][j]? = some u → (W.alloc (.cells #[x, y] T)).cell? ((⟨W.heap.size, 0, none⟩ : Addr).add j) = some u := fun j u hj => by
 rw [Addr.add_lit, Nat.zero_add, World.cell?_alloc_new]
 simpa using hj
set_option maxHeartbeats 4000000 in
theorem appendSeq_any (Bm b : Nat) (es : Ents) (w : World) (hnd : KeysNd es) (hlen : es.length ≤ 10000) (hBm : Bm < w.heap.size) (hm : w.cell? ⟨Bm, 0, none⟩ = some (.map (some b))) (hb : MapB w b es) :
  Calls Tryz.prog 117 #[.slice none 0 0, .func (.func 91) #[] #[.pointer (some ⟨Bm, 0, none⟩)]] w fun e w' =>
   ∃ v, e = .returned v ∧ (∃ ks : List K13, ks.Perm (es.map (·.1)) ∧ w'.ownsRow w.heap.size 102 2 v ks.length (ks.flatMap encK)) ∧ Below w.heap.size w w' := by
 obtain ⟨i0, hi, hz0, hz1, hz2⟩ := info_parts infoKeyI
 refine (callsIn_wide (n := 5)).1 ?_
 refine callsIn_of_wp_marks Tryz.func117 rfl trivial ?_ rfl
 simp only [Tryz.ntmps117, List.size_toArray, List.length_cons, List.length_nil, Nat.reduceAdd, Nat.reduceSub, Array.replicate_succ, Array.replicate_zero, List.push_toArray, List.append_toArray, List.nil_append, List.cons_append]
 gi_wp2
 have bS := Boxed.new w 99 (.slice none 0 0)
 have hB0 : Below w.heap.size w (w.alloc (.cells #[.slice none 0 0] 99)) := below_new w _
 have hseq := keys13_stops Fence.wide (5 - 1) trivial rfl (by omega) Bm b es hnd w hBm hm hb
 refine wpIn_rangeFunc_ownH (α := K13) rfl (by omega) (gf := 91) (lb := #[.pointer (some ⟨Bm, 0, none⟩)]) rfl trivial (enters_of Tryz.func91 (by kernel_rfl) rfl)
  hseq walksK_t walksK_b hB0 (fun _ => rfl)
  (fun pre W => (∃ v, Boxed W w.heap.size 99 v ∧ W.ownsRow w.heap.size 102 2 v pre.length (pre.flatMap encK) ∧ True) ∧ Below w.heap.size w W)
  (fun _ _ _ => False)
  (OwnFrom.and (Own.from (holdsRow_own w.heap.size w.heap.size 99 102 2 (fun pre : List K13 => pre.length) (fun pre => pre.flatMap encK) (fun _ _ => True)) _) (ownFrom_below (Nat.le_refl _) (by simp)))
  (fun _ _ _ _ _ hs _ _ => hs)
  ⟨⟨_, bS, World.ownsRow_nil _ _ _ _, trivial⟩, hB0⟩
  (fun x a' W => ∃ Bx, W.heap[Bx]? = some (.cells #[.int .u8 x.1, .int .i64 x.2] 102 (0, 0)) ∧ a' = { tmps := #[.slice none 0 0, .func (.func 91) #[] #[.pointer (some ⟨Bm, 0, none⟩)], .pointer (some ⟨w.heap.size, 0, none⟩), undef, .slice none 0 0, .pointer (some ⟨Bx, 0, none⟩), .func (.func 91) #[] #[.pointer (some ⟨Bm, 0, none⟩)], .agg #[.int .u8 x.1, .int .i64 x.2], undef, undef, undef, undef, undef], defers := [] })
  (fun x a' _ X Y row hs hg hr => by
   obtain ⟨Bx, h1, h2⟩ := hs
   refine ⟨Bx, (hg.block Bx (heap_lt h1) fun e => ?_).trans h1, h2⟩
   obtain ⟨-, o, ho, hc⟩ := hr Bx e.symm
   rw [h1] at ho; cases ho; cases hc) ?assign ?body ?done ?stop
 case assign =>
  rintro l pre x W K ⟨⟨v, hv, hrow, -⟩, hB⟩ hK
  have hx := heap_alloc_self W (.cells #[.int .u8 x.1, .int .i64 x.2] 102)
  gi_wp2
  exact hK _ _ ((KeepsOthers.alloc _ _).from _) (KeepsWalks.alloc _ _) ⟨⟨v, hv.alloc _, hrow.alloc _, trivial⟩, hB.alloc hB.size _⟩ ⟨W.heap.size, hx, rfl⟩
 case body =>
  rintro l pre x a' W hl hr ⟨⟨v, hv, hrow, -⟩, hB⟩ ⟨Bx, hBx, rfl⟩ hlt
  have hc := hv.cell
  obtain ⟨k0, k1⟩ := cell2_of hBx
  gi_wp2_with (gi_at_builtin; refine wpListIn_append_own _ rfl _ _ 99 rfl w.heap.size 102 i0 (.agg #[.int .u8 0, .int .i64 0]) 2 16 Tryz.underlying99 hi hz0 hz1 hz2 rfl (by decide) _ _ _ rfl (hrow.alloc _) ⟨W.heap.size, 0, none⟩ 1 1 [.int .u8 x.1, .int .i64 x.2] rfl rfl (cells2_new _ _ _ _) (by simp [Value.oneCell']) (by unfold maxLen; omega) (by omega) (by have := hB.size; simp; omega) ?_; intro v' w1 hown' hgrow _; obtain ⟨g', cap', rfl⟩ := ownsRow_succ hown'; obtain ⟨hv1, hv2, hr2, hk2, hb2⟩ := hv.appended (by decide) hrow hB.size (Nat.le_refl _) hown' hgrow; have hc1 := hv1.cell; have hf1 := hv1.frozen)
  exact ⟨hk2.from _, others_walks hk2, ⟨_, hv2, by rw [List.length_append, List.flatMap_append]; simpa [encK] using hr2, trivial⟩, hB.trans hb2⟩
 case done =>
  rintro D ys W hD hS ⟨⟨v, hv, hrow, -⟩, hB⟩ hK
  have hc := hv.cell
  gi_wp2
  refine ⟨by simp, .inl ⟨_, _, rfl, run_takeDeferred hK, ?_⟩⟩
  exact ⟨_, results_tmp rfl _ _ _, v, rfl, ⟨ys, hS, ownsRow_putObj hrow _ hK rfl⟩, hB.trans (belowK_b (w := w) (Nat.le_refl _) W D _ _ (by simp at hD; omega) hK rfl rfl)⟩
 case stop =>
  rintro D c pre W _ _ h _
  exact h.elim
open Go.RowKit

def ren13 : Go.Shelf.Ren := ⟨fun | 6 => 90 | 15 => 119 | 14 => 118 | 28 => 139 | 29 => 140 | 20 => 131 | 21 => 132 | 22 => 133 | 23 => 134 | 24 => 135 | 25 => 136 | 26 => 137 | 27 => 138 | 46 => 158 | 47 => 159 | 48 => 160 | 49 => 161 | 50 => 162 | 57 => 168 | n => n, fun | 22 => 99 | 24 => 102 | 25 => 111 | 3 => 3 | 39 => 175 | 0 => 0 | 53 => 196 | 55 => 198 | 4 => 4 | 46 => 189 | 45 => 188 | 50 => 193 | 5 => 5 | 9 => 9 | 66 => 211 | 70 => 215 | 76 => 221 | 77 => 222 | n => n, fun | n => n⟩
theorem sortK13 : SlLaysF0.n6 Tryz.prog ren13 := {
 mixed := by kernel_rfl,
 f6 := ⟨Tryz.f90.name, by decide, Tryz.func90.trans (congrArg some (by kernel_rfl))⟩,
 f14 := ⟨Tryz.f118.name, by decide, Tryz.func118.trans (congrArg some (by kernel_rfl))⟩,
 f15 := Tryz.func119.trans (congrArg some (by kernel_rfl)),
 f20 := ⟨Tryz.f131.name, by decide, Tryz.func131.trans (congrArg some (by kernel_rfl))⟩,
 f21 := ⟨Tryz.f132.name, by decide, Tryz.func132.trans (congrArg some (by kernel_rfl))⟩,
 f22 := ⟨Tryz.f133.name, by decide, Tryz.func133.trans (congrArg some (by kernel_rfl))⟩,
 f23 := ⟨Tryz.f134.name, by decide, Tryz.func134.trans (congrArg some (by kernel_rfl))⟩,
 f24 := ⟨Tryz.f135.name, by decide, Tryz.func135.trans (congrArg some (by kernel_rfl))⟩,
 f25 := ⟨Tryz.f136.name, by decide, Tryz.func136.trans (congrArg some (by kernel_rfl))⟩,
 f26 := ⟨Tryz.f137.name, by decide, Tryz.func137.trans (congrArg some (by kernel_rfl))⟩,
 f27 := ⟨Tryz.f138.name, by decide, Tryz.func138.trans (congrArg some (by kernel_rfl))⟩,
 f28 := Tryz.func139.trans (congrArg some (by kernel_rfl)),
 f29 := Tryz.func140.trans (congrArg some (by kernel_rfl)),
 f46 := ⟨Tryz.f158.name, by decide, Tryz.func158.trans (congrArg some (by kernel_rfl))⟩,
 f47 := Tryz.func159.trans (congrArg some (by kernel_rfl)),
 f48 := Tryz.func160.trans (congrArg some (by kernel_rfl)),
 f49 := ⟨Tryz.f161.name, by decide, Tryz.func161.trans (congrArg some (by kernel_rfl))⟩,
 f50 := ⟨Tryz.f162.name, by decide, Tryz.func162.trans (congrArg some (by kernel_rfl))⟩,
 f57 := ⟨Tryz.f168.name, by decide, Tryz.func168.trans (congrArg some (by kernel_rfl))⟩,
 t0 := Tryz.underlying0,
 a0 := Tryz.isAgg0,
 z0 := Tryz.sizeOf0,
 v0 := Tryz.zeroValue0,
 t3 := Tryz.underlying3,
 a3 := Tryz.isAgg3,
 z3 := Tryz.sizeOf3,
 v3 := Tryz.zeroValue3,
 t4 := Tryz.underlying4,
 a4 := Tryz.isAgg4,
 z4 := Tryz.sizeOf4,
 v4 := Tryz.zeroValue4,
 t5 := Tryz.underlying5,
 a5 := Tryz.isAgg5,
 z5 := Tryz.sizeOf5,
 v5 := Tryz.zeroValue5,
 t9 := Tryz.underlying9,
 a9 := Tryz.isAgg9,
 z9 := Tryz.sizeOf9,
 v9 := Tryz.zeroValue9,
 t22 := Tryz.underlying99,
 a22 := Tryz.isAgg99,
 z22 := Tryz.sizeOf99,
 v22 := Tryz.zeroValue99,
 t25 := Tryz.underlying111,
 a25 := Tryz.isAgg111,
 z25 := Tryz.sizeOf111,
 v25 := Tryz.zeroValue111,
 t39 := Tryz.underlying175,
 a39 := Tryz.isAgg175,
 z39 := Tryz.sizeOf175,
 v39 := Tryz.zeroValue175,
 t45 := Tryz.underlying188,
 a45 := Tryz.isAgg188,
 z45 := Tryz.sizeOf188,
 v45 := Tryz.zeroValue188,
 t46 := Tryz.underlying189,
 a46 := Tryz.isAgg189,
 z46 := Tryz.sizeOf189,
 v46 := Tryz.zeroValue189,
 t50 := Tryz.underlying193,
 a50 := Tryz.isAgg193,
 z50 := Tryz.sizeOf193,
 v50 := Tryz.zeroValue193,
 t53 := Tryz.underlying196,
 a53 := Tryz.isAgg196,
 z53 := Tryz.sizeOf196,
 v53 := Tryz.zeroValue196,
 t55 := Tryz.underlying198,
 a55 := Tryz.isAgg198,
 z55 := Tryz.sizeOf198,
 v55 := Tryz.zeroValue198,
 t66 := Tryz.underlying211,
 a66 := Tryz.isAgg211,
 z66 := Tryz.sizeOf211,
 v66 := Tryz.zeroValue211,
 t70 := Tryz.underlying215,
 a70 := Tryz.isAgg215,
 z70 := Tryz.sizeOf215,
 v70 := Tryz.zeroValue215,
 t76 := Tryz.underlying221,
 a76 := Tryz.isAgg221,
 z76 := Tryz.sizeOf221,
 v76 := Tryz.zeroValue221,
 t77 := Tryz.underlying222,
 a77 := Tryz.isAgg222,
 z77 := Tryz.sizeOf222,
 v77 := Tryz.zeroValue222 }

theorem flat_get : ∀ (ks : List K13) (j : Nat), j < ks.length * 2 → (ks.flatMap encK)[j]? = some ((encK (ks.toArray[j / 2]!))[j % 2]!)
 | [], j, h => absurd h (by simp)
 | x :: r, j, h => by
  rw [List.flatMap_cons]
  by_cases h2 : j < 2
  ·rw [List.getElem?_append_left (by rw [encK_len]; exact h2)]
   have : j = 0 ∨ j = 1 := by omega
   rcases this with rfl | rfl <;> simp [encK]
  ·obtain ⟨i, rfl⟩ : ∃ i, j = i + 2 := ⟨j - 2, by omega⟩
   rw [List.getElem?_append_right (by rw [encK_len]; omega), encK_len, Nat.add_sub_cancel, flat_get r i (by rw [List.length_cons] at h; omega)]
   have e1 : (i + 2) / 2 = i / 2 + 1 := by omega
   have e2 : (i + 2) % 2 = i % 2 := by omega
   rw [e1, e2]
   simp
/-- A list of keys of the call's own, as the sort reads it. -/
theorem row_holds {W : World} {lo g cap : Nat} {n : Nat} {ks : List K13} (h : W.ownsRow lo 102 2 (.slice (some ⟨g, 0, none⟩) n cap) ks.length (ks.flatMap encK)) : Sort.HoldsK encK 2 W g 0 ks.toArray ∧ n = ks.length ∧ lo ≤ g ∧ g < W.heap.size ∧ n ≤ cap ∧ cap ≤ maxLen := by
 rcases h.2 with ⟨h0, -⟩ | ⟨g', cap', cur, hv, hlo, hg, h1, h2, h3, h4⟩
 ·cases h0
 ·cases hv
  refine ⟨fun j hj => ?_, rfl, hlo, heap_lt hg, h1, h2⟩
  rw [Sort.size_flatK] at hj
  have hj' : j < ks.length * 2 := by simpa using hj
  have h5 := flat_get ks j hj'
  rw [← h4, List.getElem?_take_of_lt hj'] at h5
  rw [Sort.get_flatK encK 2 ks.toArray j hj]
  constructor
  ·simp only [World.cell?, hg, Nat.zero_add, id]
   simpa using h5
  ·simp [World.frozen?, hg]
/-- A list of keys, as it lies. -/
def KeysAt (W : World) (v : Value) (L : List K13) : Prop := (∃ A c, v = .slice A L.length c) ∧
 (0 < L.length → ∃ g c cur, v = .slice (some ⟨g, 0, none⟩) L.length c ∧ W.heap[g]? = some (.cells cur 102 (0, 0)) ∧ ∀ j (hj : j < L.length), cur[j * 2]? = some (.int .u8 L[j].1) ∧ cur[j * 2 + 1]? = some (.int .i64 L[j].2))
theorem KeysAt.grown {W W' : World} {v : Value} {L : List K13} {row : Option Nat} (h : KeysAt W v L) (hg : W.grownBy W' row) (hr : ∀ k, row = some k → ∀ cur, W.heap[k]? ≠ some (.cells cur 102 (0, 0))) : KeysAt W' v L := by
 refine ⟨h.1, fun hp => ?_⟩
 obtain ⟨g, c, cur, h1, h2, h3⟩ := h.2 hp
 exact ⟨g, c, cur, h1, (hg.block g (heap_lt h2) fun e => hr g e.symm cur h2).trans h2, h3⟩
theorem KeysAt.below {W W' : World} {v : Value} {L : List K13} (h : KeysAt W v L) (hb : Below W.heap.size W W') : KeysAt W' v L := by
 refine ⟨h.1, fun hp => ?_⟩
 obtain ⟨g, c, cur, h1, h2, h3⟩ := h.2 hp
 exact ⟨g, c, cur, h1, (hb.block g (heap_lt h2)).trans h2, h3⟩
theorem holds_list {W : World} {g cap : Nat} {d : Array K13} (h : Sort.HoldsK encK 2 W g 0 d) {cur : Array Value} (hc : W.heap[g]? = some (.cells cur 102 (0, 0))) : KeysAt W (.slice (some ⟨g, 0, none⟩) d.size cap) d.toList := by
 refine ⟨⟨some ⟨g, 0, none⟩, cap, by simp⟩, fun _ => ⟨g, cap, cur, by simp, hc, fun j hj => ?_⟩⟩
 have hj' : j < d.size := by simpa using hj
 have hf : ∀ t, t < 2 → cur[j * 2 + t]? = some ((encK d[j]!)[t]!) := fun t ht => by
  have h1 := (h (j * 2 + t) (by rw [Sort.size_flatK]; omega)).1
  rw [Sort.get_flatK encK 2 d _ (by omega)] at h1
  rw [show (j * 2 + t) / 2 = j by omega, show (j * 2 + t) % 2 = t by omega] at h1
  simpa [World.cell?, hc] using h1
 have e : d.toList[j] = d[j]! := by rw [getElem!_pos d j hj']; simp
 rw [e]
 exact ⟨hf 0 (by omega), hf 1 (by omega)⟩
theorem sort_block (W : World) (g n : Nat) (d : Array K13) (os : Array Obj) {cur : Array Value} (h : W.heap[g]? = some (.cells cur 102 (0, 0))) : ∃ cur', (sortWorldK encK 2 W g 0 n d os).heap[g]? = some (.cells cur' 102 (0, 0)) := by
 obtain ⟨hlt, hk⟩ := Array.getElem?_eq_some_iff.1 h
 have e : (sortWorldK encK 2 W g 0 n d os).heap[g]? = some (Sort.onCells (Sort.putCells id 0 (Sort.flatK encK 2 d)) (.cells cur 102 (0, 0))) := by
  show ((W.heap.modify g _) ++ os)[g]? = _
  rw [Array.getElem?_append_left (by simpa using hlt), Array.getElem?_modify, h]
  simp
 exact ⟨_, e⟩
/-- What a sort leaves. -/
theorem sort_grown (W : World) (g n : Nat) (d : Array K13) (os : Array Obj) : W.grownBy (sortWorldK encK 2 W g 0 n d os) (some g) := by
 refine ⟨rfl, rfl, rfl, ?_, fun i hi hne => ?_⟩
 ·show W.heap.size ≤ ((W.heap.modify g _) ++ os).size
  simp
 ·show ((W.heap.modify g _) ++ os)[i]? = _
  have : i ≠ g := fun e => hne (by rw [e])
  rw [Array.getElem?_append_left (by simpa using hi), Array.getElem?_modify]
  simp [Ne.symm this]
theorem ltK (x y : K13) : ltOf cfK x y = decide (x.1 < y.1 ∨ (x.1 = y.1 ∧ x.2 < y.2)) := by
 unfold ltOf cfK orZ cmpZ
 by_cases h1 : x.1 < y.1
 ·simp [h1]
 ·by_cases h2 : y.1 < x.1
  ·have : ¬ x.1 = y.1 := by omega
   simp [h1, h2, this]
  ·have h3 : x.1 = y.1 := by omega
   by_cases h4 : x.2 < y.2
   ·simp [h3, h4]
   ·by_cases h5 : y.2 < x.2 <;> simp [h3, h4, h5]
theorem swoK : Sort.SWO (ltOf cfK) where
 irrefl x := by rw [ltK]; simp
 trans x y z h1 h2 := by rw [ltK] at *; simp at *; omega
 ntrans x y z h1 h2 := by rw [ltK] at *; simp at *; omega
theorem cmpLaysK (blk off size : Nat) (w : World) : CmpLays Tryz.prog 55 #[] encK 2 cfK blk off size w := fun _ _ _ _ x y => ahead_any x y _
def KX (Bm : Nat) : Value := .func (.func 91) #[] #[.pointer (some ⟨Bm, 0, none⟩)]
theorem collect_any (Bm b : Nat) (es : Ents) (w : World) (hnd : KeysNd es) (hlen : es.length ≤ 10000) (hBm : Bm < w.heap.size) (hm : w.cell? ⟨Bm, 0, none⟩ = some (.map (some b))) (hb : MapB w b es) :
  Calls Tryz.prog 89 #[.func (.func 91) #[] #[.pointer (some ⟨Bm, 0, none⟩)]] w fun e w' =>
   ∃ v, e = .returned v ∧ (∃ ks : List K13, ks.Perm (es.map (·.1)) ∧ w'.ownsRow w.heap.size 102 2 v ks.length (ks.flatMap encK)) ∧ Below w.heap.size w w' := by
 have hc := appendSeq_any Bm b es w hnd hlen hBm hm hb
 go_enter Tryz.func89, Tryz.ntmps89
 go_wp2_with (go_at_call 117; refine hc.mono ?_; rintro e w' ⟨v, rfl, hk, hB⟩)
 go_ret
 exact ⟨_, rfl, hk, hB⟩
/-- slices.SortFunc at the program's keys. -/
theorem sortFunc_any (v : Value) (ks : List K13) (lo : Nat) (w : World) (hlen : ks.length ≤ 10000) (hlo : lo ≤ w.heap.size) (h : w.ownsRow lo 102 2 v ks.length (ks.flatMap encK)) :
  Calls Tryz.prog 90 #[v, .func (.func 55) #[] #[]] w fun e w' => e = .returned (.tuple #[]) ∧ (∃ L : List K13, L.Perm ks ∧ L.Pairwise (fun x y => ltOf cfK y x = false) ∧ KeysAt w' v L) ∧ Below lo w w' := by
 rcases h.2 with ⟨rfl, h0⟩ | ⟨g, cap, cur, rfl, -⟩
 ·have hk : ks = [] := List.length_eq_zero_iff.1 h0
  subst hk
  have hcon := AnyF.slices_SortFunc_none sortK13 none 0 (.func (.func 55) #[] #[]) w
  refine Calls.mono hcon ?_
  rintro e w' ⟨rfl, rfl⟩
  exact ⟨rfl, ⟨[], List.Perm.refl _, by simp, ⟨⟨_, _, rfl⟩, fun h => absurd h (by simp)⟩⟩, Below.refl _ _⟩
 ·obtain ⟨hH, hn, hg, hgl, hcap, hmx⟩ := row_holds h
  have hcur : ∃ cur, w.heap[g]? = some (.cells cur 102 (0, 0)) := by
   rcases h.2 with ⟨h0, -⟩ | ⟨g', cap', cur', hv, -, hg', -⟩
   ·cases h0
   ·cases hv; exact ⟨_, hg'⟩
  obtain ⟨cur0, hcur0⟩ := hcur
  have eg : ∀ args w, (callFunc 55 args).run Tryz.prog w = .ok (.enter 55 args) w := enters_of Tryz.func55 (by kernel_rfl) rfl
  have hcon := AnyQ.slices_SortFunc sortK13 2 Tryz.isAgg102 Tryz.sizeOf102 encK encK_len (fun x v hv => by simp [encK] at hv; rcases hv with rfl | rfl <;> rfl) cfK swoK 55 #[] g 0 cap ks.toArray w eg (cmpLaysK g 0 _ w) hH hgl (by simp; omega)
  refine Calls.mono hcon ?_
  rintro e w' ⟨rfl, d', n, os, hp, hs, rfl⟩
  have hsz : d'.size = ks.length := hp.1.trans (by simp)
  have hH2 := holdsK_sortWorldK_c encK 2 w g 0 ks.toArray d' n os hH hgl (by simpa using hsz)
  have hgr := sort_grown w g n d' os
  refine ⟨rfl, ⟨d'.toList, ?_, ?_, ?_⟩, (Below.refl lo w).grown hgr hlo (fun k e => by cases e; exact hg)⟩
  ·have h3 : (d'.toList.take ks.length).Perm ks := by simpa [hsz] using hp.2.2
   rwa [List.take_of_length_le (by simp; omega)] at h3
  ·rw [List.pairwise_iff_getElem]
   intro i j hi hj hij
   have := hs i j (Nat.zero_le _) hij (by simp at hj; simpa [hsz] using hj)
   simp at hi hj
   rw [getElem!_pos d' j hj, getElem!_pos d' i hi] at this
   simpa using this
  ·obtain ⟨cur', hc'⟩ := sort_block w g n d' os hcur0
   have := holds_list (cap := cap) hH2 hc'
   rw [hsz] at this
   exact this
theorem sorted_any (Bm b : Nat) (es : Ents) (w : World) (hnd : KeysNd es) (hlen : es.length ≤ 10000) (hBm : Bm < w.heap.size) (hm : w.cell? ⟨Bm, 0, none⟩ = some (.map (some b))) (hb : MapB w b es) :
  Calls Tryz.prog 53 #[.func (.func 91) #[] #[.pointer (some ⟨Bm, 0, none⟩)], .func (.func 55) #[] #[]] w fun e w' =>
   ∃ v, e = .returned v ∧ (∃ L : List K13, L.Perm (es.map (·.1)) ∧ L.Pairwise (fun x y => ltOf cfK y x = false) ∧ KeysAt w' v L) ∧ Below w.heap.size w w' := by
 have hc := collect_any Bm b es w hnd hlen hBm hm hb
 go_enter Tryz.func53, Tryz.ntmps53
 go_wp2_with (first
  | (go_at_call 89; refine hc.mono ?_; rintro e w1 ⟨v, rfl, ⟨ks, hk, ho⟩, hB⟩)
  | (go_at_call 90; refine (sortFunc_any v ks w.heap.size w1 (by have := hk.length_eq; simp at this; omega) hB.size ho).mono ?_; rintro e w2 ⟨rfl, ⟨L, hp, hs, hi⟩, hB2⟩))
 go_ret
 exact ⟨_, rfl, ⟨L, hp.trans hk, hs, hi⟩, hB.trans hB2⟩
end Go.Proofs.YtneeocnjfnneoaaGreat
