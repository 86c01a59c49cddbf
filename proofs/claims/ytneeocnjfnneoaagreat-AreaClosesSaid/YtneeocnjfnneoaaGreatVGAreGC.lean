/-
 The program's package area: maps met, cloned, copied; what changes.
 Conditions: none.
-/
import Derived.Test.YtneeocnjfnneoaaGreatVGAreG
import Derived.Shelf.SlMaps.Clone
import Derived.Test.YtneeocnjfnneoaaGreatVGAreRefA
import Derived.Sort.OwnSortedInts
set_option linter.unusedVariables false
set_option linter.unusedSimpArgs false
set_option maxRecDepth 100000
namespace Go.Proofs.YtneeocnjfnneoaaGreat
open Go.RowKit

/-- A map of the call's own that is turned. -/
structure MapAt (w W : World) (mb : Nat) (g : K13 → Prop) : Prop where
 g : Gath W mb g
 b : Below w.heap.size w W
 lo : w.heap.size ≤ mb
section
variable {w W W' : World} {mb : Nat} {g g' : K13 → Prop}
theorem MapAt.below (h : MapAt w W mb g) (b : Below W.heap.size W W') : MapAt w W' mb g := ⟨h.g.below b h.g.lt, h.b.trans (b.mono h.b.size), h.lo⟩
theorem MapAt.turn (h : MapAt w W mb g) (hg : Gath W' mb g') (b : W.grownBy W' (some mb)) : MapAt w W' mb g' := by
 have hlo := h.lo
 exact ⟨hg, h.b.grown b h.b.size (fun k e => by cases e; exact hlo), hlo⟩
theorem MapAt.iff (h : MapAt w W mb g) (hg : ∀ k, g k ↔ g' k) : MapAt w W mb g' := ⟨h.g.iff hg, h.b, h.lo⟩
end
theorem iter_below13 {W W' : World} {b r n m : Nat} {es vs vs' : Ents} {lo : Nat} (hg : W.grownBy W' (some r)) (hr : lo ≤ r) (hl : lo ≤ W.heap.size) : Below lo W W' := (Below.refl lo W).grown hg hl (fun k e => by cases e; exact hr)
noncomputable def metB (g g' : K13 → Prop) : Bool := @decide (∃ z, g z ∧ g' z) (Classical.propDecidable _)
theorem metB_iff {g g' : K13 → Prop} : metB g g' = true ↔ ∃ z, g z ∧ g' z := by rw [metB]; exact @decide_eq_true_iff _ (Classical.propDecidable _)
theorem metB_no {g g' : K13 → Prop} : metB g g' = false ↔ ¬ ∃ z, g z ∧ g' z := by rw [← Bool.not_eq_true, metB_iff]
set_option maxHeartbeats 8000000 in
theorem meet14_any (b c : Nat) (g g' : K13 → Prop) (w : World) (hg : Gath w b g) (hg' : Gath w c g') :
  Calls Tryz.prog 31 #[.map (some b), .map (some c)] w fun e w' => e = .returned (.bool (metB g g')) ∧ Below w.heap.size w w' := by
 obtain ⟨es, hge⟩ := hg
 have GE := Lib.hid hge
 have GC := Lib.hid hg'
 clear hge hg'
 go_enter Tryz.func31, Tryz.ntmps31
 go_wp2_with (at_range; refine wpList_range13 _ rfl _ 73 78 rfl Tryz.underlying73 b es rfl GE.out.map ?_; intro w0 hi0 hg0 hs0)
 go_frame
 have H0 : Hid (Iter13 w0 b w.heap.size es [] es.length ∧ Below w.heap.size w w0) := Lib.hid ⟨hi0, ⟨hg0.os, hg0.tape, hg0.output, hg0.size, fun i hi => hg0.block i hi (by simp)⟩⟩
 obtain ⟨r, hr⟩ : ∃ n, n = w.heap.size := ⟨_, rfl⟩
 have LR := Lib.hid (Nat.le_of_eq hr.symm)
 rw [← hr] at H0
 rw [← hr]
 clear hi0 hg0 hs0
 have H0' : Hid (Iter13 w0 b r es [] es.length ∧ Below w.heap.size w w0) := by rw [hr] at H0 ⊢; exact H0
 clear H0 hr
 go_loopw [5] (fun _ wr => ∃ (vs : Ents) (cnt : Nat), Iter13 wr b r es vs cnt ∧ (∀ q ∈ vs, ¬ g' q.1) ∧ Below w.heap.size w wr) (fun _ wr => wr.rangeLeft b r)
 case atStart => exact ⟨[], _, H0'.out.1, by simp, H0'.out.2⟩
 case round =>
  clear H0'
  obtain ⟨vs, cnt, hit, hno, hbw⟩ := hrel
  have IT := Lib.hid hit
  have NO := Lib.hid hno
  have BW := Lib.hid hbw
  clear hit hno hbw
  go_wp2_with (at_next; refine wpList_next13 _ rfl _ rfl b r es vs cnt GE.out.nd rfl IT.out ?_ ?_)
  ·intro hc0
   subst hc0
   have HV : Hid (metB g g' = false) := Lib.hid (metB_no.2 (by
    rintro ⟨z, h1, h2⟩
    obtain ⟨q, hq, e⟩ := List.mem_map.1 ((GE.out.keys z).2 h1)
    exact NO.out q ((IT.out.all GE.out.nd).mem_iff.2 hq) (by rw [e]; exact h2)))
   go_wp2_with fail
   go_ret
   exact ⟨by rw [HV.out]; rfl, BW.out⟩
  ·intro kd kid pv w2 cnt2 hpe hpn hi2 hlt hg2 hs2 hen
   have BW2 := Lib.hid (BW.out.trans ((iter_below13 (n := 0) (m := 0) (es := es) (vs := vs) (vs' := vs) (b := b) hg2 LR.out BW.out.size)))
   have ML : Hid (cnt2 < wr.rangeLeft b r) := Lib.hid (by rw [IT.out.left_eq]; exact hlt)
   have IT2 := Lib.hid hi2
   have PE := Lib.hid hpe
   clear hi2 hlt hg2 hs2 hpe hpn BW IT
   unfold keyV at hen
   dsimp only at hen
   go_upto_region 4 with ((with_reducible show wpList _ _ _ (⟨none, .store _ _ _, _, _, _, _⟩ :: _) _ _); refine wpList_store_rowS rfl _ (.tmp 5) (.tmp 11) rfl w2.heap.size rfl (c' := #[.int .u8 kd, .int .i64 kid]) rfl (heap_alloc_self w2 (.cells #[.int .u8 0, .int .i64 0] 77)) infoEl14 rfl (by simp [Value.oneCell']) ?_)
   rw [World.setRow_alloc_new]
   have hx1 := heap_alloc_self w2 (.cells #[.int .u8 kd, .int .i64 kid] 77)
   have hb1 := below_new w2 (.cells #[.int .u8 kd, .int .i64 kid] 77)
   have IT3 := Lib.hid (IT2.out.below hb1 IT2.out.map.lt IT2.out.lt)
   have BW3 := Lib.hid (BW2.out.trans (hb1.mono BW2.out.size))
   generalize w2.alloc (.cells #[.int .u8 kd, .int .i64 kid] 77) = w3 at hx1 IT3 BW3 hb1 ⊢
   generalize w2.heap.size = kb at hx1 ⊢
   obtain ⟨k0, k1⟩ := cell2_of hx1
   clear hx1 hb1 hen IT2 BW2
   obtain ⟨hv, hhv⟩ : ∃ q_, q_ = gB g' (kd, kid) := ⟨_, rfl⟩
   have HV := Lib.hid hhv
   clear hhv
   cases hv with
   | true =>
    have HM : Hid (metB g g' = true) := Lib.hid (metB_iff.2 ⟨(kd, kid), (GE.out.keys _).1 (List.mem_map.2 ⟨_, PE.out, rfl⟩), gB_iff.1 HV.out.symm⟩)
    go_wp2_with (go_at_call 62; refine (has14_any c g' kd kid w3 (GC.out.below BW3.out GC.out.lt)).mono ?_; rintro e w4 ⟨rfl, b_⟩; rw [← HV.out]; have BW4 := Lib.hid (BW3.out.trans (b_.mono BW3.out.size)); clear b_)
    go_ret
    exact ⟨by rw [HM.out]; rfl, BW4.out⟩
   | false =>
    go_wp2_with (go_at_call 62; refine (has14_any c g' kd kid w3 (GC.out.below BW3.out GC.out.lt)).mono ?_; rintro e w4 ⟨rfl, b_⟩; rw [← HV.out]; have BW4 := Lib.hid (BW3.out.trans (b_.mono BW3.out.size)); have IT4 := Lib.hid (IT3.out.below b_ IT3.out.map.lt IT3.out.lt); clear b_)
    go_roundw
    case measure => rw [IT4.out.left_eq]; exact ML.out
    case rel =>
     refine ⟨_, _, IT4.out, fun q hq => ?_, BW4.out⟩
     rcases List.mem_append.1 hq with hq | hq
     ·exact NO.out q hq
     ·rw [List.mem_singleton.1 hq]; exact gB_no.1 HV.out.symm
set_option maxHeartbeats 4000000 in
theorem clone14_any (b : Nat) (g : K13 → Prop) (w : World) (hg : Gath w b g) :
  Calls Tryz.prog 29 #[.map (some b)] w fun e w' => ∃ m, e = .returned (.map (some m)) ∧ Gath w' m g ∧ w.heap.size ≤ m ∧ Below w.heap.size w w' := by
 obtain ⟨es, hge⟩ := hg
 have hq := fun w => run_eql_map_nil_sl (P := Tryz.prog) w 73 _ _ (some b) Tryz.underlying73
 have hb : w.heap[b]? = some (.map (ents es) es.length) := hge.map
 go_enter Tryz.func29, Tryz.ntmps29
 go_wp2
 rw [run_callFunc_extern Tryz.func61 (by kernel_rfl) (by kernel_rfl) (by kernel_rfl) (e := Extern.MapsClone.clone) (by kernel_rfl), run_maps_clone_sl w 73 hb]
 simp only [Result.andThen]
 rw [Oper.upon_value]
 go_wp2
 rw [run_typeAssert_map_sl _ 73 _ _ _ _ Tryz.underlying73]
 simp only [Result.andThen]
 rw [Oper.upon_value]
 go_wp2
 go_ret
 exact ⟨_, rfl, ⟨es, heap_alloc_self w _, hge.nd, hge.un, hge.keys⟩, Nat.le_refl _, below_new w _⟩
set_option maxHeartbeats 8000000 in
theorem copy14_any (b c : Nat) (g g' : K13 → Prop) (w : World) (hg : Gath w b g) (hg' : Gath w c g') (hne : b ≠ c) :
  Calls Tryz.prog 32 #[.map (some b), .map (some c)] w fun e w' => e = .returned (.tuple #[]) ∧ Gath w' b (fun z => g z ∨ g' z) ∧ w.grownBy w' (some b) := by
 obtain ⟨es, hce⟩ := hg'
 have CE := Lib.hid hce
 have GB := Lib.hid hg
 have LB : Hid (b < w.heap.size) := Lib.hid hg.lt
 have NE := Lib.hid hne
 clear hce hg hne
 go_enter Tryz.func32, Tryz.ntmps32
 go_wp2_with (at_range; refine wpList_range13 _ rfl _ 73 78 rfl Tryz.underlying73 c es rfl CE.out.map ?_; intro w0 hi0 hg0 hs0)
 go_frame
 obtain ⟨r, hr⟩ : ∃ n, n = w.heap.size := ⟨_, rfl⟩
 have LR := Lib.hid (Nat.le_of_eq hr.symm)
 have NR : Hid (b ≠ r) := Lib.hid (by have := LB.out; omega)
 have H0 : Hid (Iter13 w0 c r es [] es.length ∧ Gath w0 b (fun z => g z ∨ z ∈ ([] : Ents).map (·.1)) ∧ w.grownBy w0 (some b)) := Lib.hid ⟨by rw [hr]; exact hi0, (GB.out.same (hg0.block b LB.out (by simp))).iff (by simp), hg0.but _⟩
 rw [← hr]
 clear hi0 hg0 hs0 hr
 go_loopw [4] (fun _ wr => ∃ (vs : Ents) (cnt : Nat), Iter13 wr c r es vs cnt ∧ Gath wr b (fun z => g z ∨ z ∈ vs.map (·.1)) ∧ w.grownBy wr (some b)) (fun _ wr => wr.rangeLeft c r)
 case atStart => exact ⟨[], _, H0.out⟩
 case round =>
  clear H0
  obtain ⟨vs, cnt, hit, hgv, hgr⟩ := hrel
  have IT := Lib.hid hit
  have GV := Lib.hid hgv
  have GR := Lib.hid hgr
  clear hit hgv hgr
  go_wp2_with (at_next; refine wpList_next13 _ rfl _ rfl c r es vs cnt CE.out.nd rfl IT.out ?_ ?_)
  ·intro hc0
   subst hc0
   have HF : Hid (Gath wr b (fun z => g z ∨ g' z)) := Lib.hid (GV.out.iff fun z => by
    rw [((IT.out.all CE.out.nd).map (fun q : K13 × Value => q.1)).mem_iff, CE.out.keys])
   go_wp2_with fail
   go_end0
   exact ⟨rfl, HF.out, GR.out⟩
  ·intro kd kid pv w2 cnt2 hpe hpn hi2 hlt hg2 hs2 hen
   obtain rfl : pv = .agg #[] := CE.out.un _ hpe
   have ML : Hid (cnt2 < wr.rangeLeft c r) := Lib.hid (by rw [IT.out.left_eq]; exact hlt)
   have IT2 := Lib.hid hi2
   have GV2 := Lib.hid (GV.out.same (hg2.block b GV.out.lt (fun e => NR.out (by injection e))))
   have GR2 := Lib.hid (GR.out.andThen hg2 (fun j e => .inl (by cases e; exact LR.out)))
   clear hi2 hlt hg2 hs2 hpe hpn IT GV GR
   unfold keyV at hen
   dsimp only at hen
   have y0 : ((w2.alloc (.cells #[.int .u8 0, .int .i64 0] 77)).alloc (.cells #[] 78)).heap[w2.heap.size]? = some (.cells #[.int .u8 0, .int .i64 0] 77 (0, 0)) := (heap_alloc_lt _ _ (by simp)).trans (heap_alloc_self w2 _)
   have y1 : ((w2.alloc (.cells #[.int .u8 0, .int .i64 0] 77)).alloc (.cells #[] 78)).heap[w2.heap.size + 1]? = some (.cells #[] 78 (0, 0)) := by
    have h := heap_alloc_self (w2.alloc (.cells #[.int .u8 0, .int .i64 0] 77)) (.cells #[] 78)
    rw [World.size_alloc] at h
    exact h
   have yb : Below w2.heap.size w2 ((w2.alloc (.cells #[.int .u8 0, .int .i64 0] 77)).alloc (.cells #[] 78)) := ((Below.refl _ w2).alloc (Nat.le_refl _) _).alloc (by simp) _
   have s1 := setRow_heap _ _ _ #[.int .u8 kd, .int .i64 kid] 77 _ y0
   have s2 := (setRow_other ((w2.alloc (.cells #[.int .u8 0, .int .i64 0] 77)).alloc (.cells #[] 78)) w2.heap.size (w2.heap.size + 1) #[.int .u8 kd, .int .i64 kid] (by omega)).trans y1
   have s3 := setRow_heap _ _ _ #[] 78 _ s2
   have s4 := (setRow_other (((w2.alloc (.cells #[.int .u8 0, .int .i64 0] 77)).alloc (.cells #[] 78)).setRow w2.heap.size #[.int .u8 kd, .int .i64 kid]) (w2.heap.size + 1) w2.heap.size #[] (by omega)).trans s1
   have sb := below_setRow (below_setRow yb (Nat.le_refl _) #[.int .u8 kd, .int .i64 kid]) (Nat.le_succ _) #[]
   go_upto_region 3 with (first
    | ((with_reducible show wpList _ _ _ (⟨none, .store 77 _ _, _, _, _, _⟩ :: _) _ _); refine wpList_store_rowS rfl _ (.tmp 4) (.tmp 11) rfl w2.heap.size rfl (c' := #[.int .u8 kd, .int .i64 kid]) rfl y0 infoEl14 rfl (by simp [Value.oneCell']) ?_)
    | ((with_reducible show wpList _ _ _ (⟨none, .store 78 _ _, _, _, _, _⟩ :: _) _ _); refine wpList_store_rowS rfl _ (.tmp 5) (.tmp 12) rfl (w2.heap.size + 1) rfl (c' := #[]) rfl s2 infoUnit14 rfl (by simp [Value.oneCell']) ?_))
   generalize (((w2.alloc (.cells #[.int .u8 0, .int .i64 0] 77)).alloc (.cells #[] 78)).setRow w2.heap.size #[.int .u8 kd, .int .i64 kid]).setRow (w2.heap.size + 1) #[] = w3 at s3 s4 sb ⊢
   have IT3 := Lib.hid (IT2.out.below sb IT2.out.map.lt IT2.out.lt)
   have GV3 := Lib.hid (GV2.out.below sb GV2.out.lt)
   have GR3 : Hid (w.grownBy w3 (some b)) := Lib.hid (GR2.out.andThen (row' := none) ⟨sb.os, sb.tape, sb.output, sb.size, fun i hi _ => sb.block i hi⟩ (fun j e => by cases e))
   have XK := Lib.hid s4
   have XE := Lib.hid s3
   clear y0 y1 yb s1 s2 s3 s4 sb hen IT2 GV2 GR2
   generalize w2.heap.size = kb at XK XE ⊢
   obtain ⟨k0, k1⟩ := cell2_of XK.out
   obtain ⟨es2, hg3⟩ := GV3.out
   have G3 := Lib.hid hg3
   clear hg3
   go_wp2_with ((with_reducible show wpList _ _ _ (⟨none, .mapUpdate _ _ _ _, _, _, _, _⟩ :: _) _ _); refine wpList_update13 _ rfl (.tmp 13) (.tmp 14) (.tmp 15) 73 78 rfl keyT14 Tryz.underlying73 b es2 (kd, kid) (.agg #[]) rfl rfl rfl G3.out.map ?_; intro w5 hm5 hg5 hs5; go_frame)
   have GV5 := Lib.hid (G3.out.put (kd, kid) hm5)
   have GR5 := Lib.hid (GR3.out.trans hg5)
   have IT5 := Lib.hid (IT3.out.same (hg5.block c IT3.out.map.lt (fun e => NE.out (by injection e with e; exact e.symm))) (hg5.block r IT3.out.lt (fun e => NR.out (by injection e with e; exact e.symm))))
   clear hm5 hg5 hs5 GV3 GR3 IT3 XK XE k0 k1
   go_roundw
   case measure => rw [IT5.out.left_eq]; exact ML.out
   case rel => exact ⟨_, _, IT5.out, GV5.out.iff fun z => by rw [List.map_append, List.mem_append, List.map_singleton, List.mem_singleton]; exact or_assoc, GR5.out⟩
theorem infoDf14 : (Tryz.prog.info? 51).map (·.size) = some 3 := by kernel_rfl
set_option maxHeartbeats 8000000 in
theorem changing14_any (v : Value) (a b : Pl) (w : World) (h : ListIn 3 DiffR w w.heap.size v (diffL a b)) (ha : PlanMay a) (hb : PlanMay b) :
  Calls Tryz.prog 28 #[v] w fun e w' => ∃ m, e = .returned (.map (some m)) ∧ Gath w' m (fun k => chB a b k.1 k.2 = true) ∧ w.heap.size ≤ m ∧ Below w.heap.size w w' := by
 have HALL := Lib.hid (chK_all ha hb)
 clear ha hb
 have H := Lib.hid h
 obtain ⟨A, c, rfl, -, hcm⟩ := h.slice
 clear h
 obtain ⟨n, hn⟩ : ∃ n, n = (diffL a b).length := ⟨_, rfl⟩
 have HA : Hid (ListIn 3 DiffR w w.heap.size (.slice A n c) (diffL a b)) := Lib.hid (by rw [hn]; exact H.out)
 have hn9 : n ≤ 396 := by rw [hn]; exact diffL_len a b
 have HN := Lib.hid hn
 rw [← hn]
 clear hn H hcm
 go_enter Tryz.func28, Tryz.ntmps28
 have hmm := @run_makeMap Tryz.prog
 go_upto_region 2 with fail
 have M0 : Hid (MapAt w (w.alloc (.map #[] 0)) w.heap.size (chK a b 0)) := Lib.hid ⟨(Gath.new w).iff fun k => (chK_zero a b k).symm, below_new w _, Nat.le_refl _⟩
 have LM : Hid (w.heap.size ≤ w.heap.size) := Lib.hid (Nat.le_refl _)
 generalize w.alloc (.map #[] 0) = q0 at M0 ⊢
 obtain ⟨mb, hmb⟩ : ∃ n, n = w.heap.size := ⟨_, rfl⟩
 have M1 : Hid (MapAt w q0 mb (chK a b 0)) := by rw [hmb]; exact M0
 rw [← hmb]
 clear M0 LM hmb hmm
 go_upto_region 3 with fail
 go_loopw [9] (fun s9 wr => ∃ i : Nat, s9 = .int .i64 i ∧ i ≤ n ∧ MapAt w wr mb (chK a b i)) (fun s9 _ => n - (intOf s9).toNat)
 case atStart => exact ⟨0, by go_num, by omega, M1.out⟩
 case round =>
  clear M1
  obtain ⟨i, rfl, hi, hu⟩ := hrel
  have U := Lib.hid hu
  clear hu
  by_cases hlt : i < n
  ·have hlt' : (i : Int) < n := by omega
   have hir : i < (diffL a b).length := by rw [← HN.out]; exact hlt
   obtain ⟨bf, of_, rfl, hbf, hc0, hc1, hc2⟩ := HA.out.at hir
   obtain ⟨x, hx⟩ : ∃ x, x = (diffL a b)[i].1 := ⟨_, rfl⟩
   obtain ⟨y, hy⟩ : ∃ x, x = (diffL a b)[i].2.1 := ⟨_, rfl⟩
   obtain ⟨z, hz⟩ : ∃ x, x = (diffL a b)[i].2.2 := ⟨_, rfl⟩
   have g0 : wr.cell? ⟨bf, of_ + i * 3, none⟩ = some (.int .u8 x) := (U.out.b.cell (p := ⟨bf, of_ + i * 3, none⟩) hbf).trans (by rw [hx]; simpa using hc0)
   have g1 : wr.cell? ⟨bf, of_ + i * 3 + 1, none⟩ = some (.int .i64 y) := (U.out.b.cell (p := ⟨bf, of_ + i * 3 + 1, none⟩) hbf).trans (by rw [hy]; simpa using hc1)
   have g2 : wr.cell? ⟨bf, of_ + i * 3 + 2, none⟩ = some (.int .u8 z) := (U.out.b.cell (p := ⟨bf, of_ + i * 3 + 2, none⟩) hbf).trans (by rw [hz]; simpa using hc2)
   have YES : Hid (z ≠ 0 → ∀ W, MapAt w W mb (fun k => chK a b i k ∨ (k.1 = x ∧ k.2 ∈ [y] ∧ k.2 ≠ 0)) → MapAt w W mb (chK a b (i + 1))) := Lib.hid (fun h0 W h => h.iff fun k => by rw [hx, hy]; exact (chK_yes hir (by rw [← hz]; exact h0) k).symm)
   have NO : Hid (¬ z ≠ 0 → ∀ W, MapAt w W mb (chK a b i) → MapAt w W mb (chK a b (i + 1))) := Lib.hid (fun h0 W h => h.iff fun k => (chK_no hir (by rw [← hz]; exact h0) k).symm)
   clear hx hy hz hc0 hc1 hc2 hbf hir
   go_upto_region 5 with ((with_reducible show wpList _ _ _ (⟨none, .store _ _ _, _, _, _, _⟩ :: _) _ _); refine wpList_store_rowS rfl _ (.tmp 5) (.tmp 12) rfl wr.heap.size rfl (c' := #[.int .u8 x, .int .i64 y, .int .u8 z]) rfl (heap_alloc_self wr (.cells #[.int .u8 0, .int .i64 0, .int .u8 0] 51)) infoDf14 rfl (by simp [Value.oneCell']) ?_)
   rw [World.setRow_alloc_new]
   have hx1 := heap_alloc_self wr (.cells #[.int .u8 x, .int .i64 y, .int .u8 z] 51)
   have UB := Lib.hid (U.out.below (below_new wr (.cells #[.int .u8 x, .int .i64 y, .int .u8 z] 51)))
   generalize wr.alloc (.cells #[.int .u8 x, .int .i64 y, .int .u8 z] 51) = w5 at hx1 UB ⊢
   generalize wr.heap.size = p5 at hx1 ⊢
   obtain ⟨e0, e1, e2⟩ := cell3_of hx1
   clear hx1 g0 g1 g2 U
   by_cases h0 : z ≠ 0
   ·have d0 : (z != 0) = true := by simpa using h0
    have HY := Lib.hid (YES.out h0)
    clear h0 YES NO
    go_wp2_with (go_at_call 60; refine (add14_any mb _ x [y] _ (w5.alloc (.cells #[.int .i64 y] 3)) (UB.out.below (below_new w5 (.cells #[.int .i64 y] 3))).g (one_arg14 w5 y)).mono ?_; rintro e w6 ⟨rfl, hg_, gr_⟩; have UC := Lib.hid ((UB.out.below (below_new w5 (.cells #[.int .i64 y] 3))).turn hg_ gr_); clear hg_ gr_ UB)
    have UD := Lib.hid (HY.out _ UC.out)
    clear UC HY e0 e1 e2
    go_roundw
    case measure => simp [intOf]; omega
    case rel => exact ⟨i + 1, by go_num, by omega, UD.out⟩
   ·have d0 : (z != 0) = false := by simpa using h0
    have UD := Lib.hid (NO.out h0 _ UB.out)
    clear h0 YES NO
    go_wp2_with fail
    go_roundw
    case measure => simp [intOf]; omega
    case rel => exact ⟨i + 1, by go_num, by omega, UD.out⟩
  ·obtain rfl : i = n := by omega
   have hlt' : ¬ (i : Int) < i := by omega
   have HF : Hid (Gath wr mb (fun k => chB a b k.1 k.2 = true)) := Lib.hid (U.out.g.iff fun k => by rw [← HALL.out, HN.out])
   go_wp2_with fail
   go_ret
   exact ⟨_, rfl, HF.out, U.out.lo, U.out.b⟩

theorem flat_ints : ∀ l : List Int, (l.map fun z => [Value.int .i64 z]).flatten = l.map (Value.int .i64)
 | [] => rfl
 | a :: l => by simpa using flat_ints l
theorem ints_row {W : World} {lo : Nat} {v : Value} {l : List Int} (h : IntsOwn W lo v l) : W.ownsRow lo 3 1 v l.length (l.map (Value.int .i64)) := by
 obtain ⟨yss, ho, hl, hm, hs, ht⟩ := h
 have e : yss = l.map fun z => [Value.int .i64 z] := by
  refine List.ext_getElem (by simp [hl]) fun j h1 h2 => ?_
  have h3 : j < l.length := by rw [← hl]; exact h1
  have h4 := ht j yss[j] l[j] (List.getElem?_eq_getElem h1) (List.getElem?_eq_getElem h3)
  have h5 := hs _ (List.getElem_mem h1)
  obtain ⟨a, ha⟩ := List.length_eq_one_iff.1 h5
  rw [ha] at h4
  have h6 : some a = some (Value.int .i64 l[j]) := h4
  rw [ha, List.getElem_map, Option.some.inj h6]
 rw [e, flat_ints] at ho
 exact ho
theorem row_ints {W : World} {lo n : Nat} {v : Value} {l : List Int} (h : W.ownsRow lo 3 1 v n (l.map (Value.int .i64))) (hn : n = l.length) (hl : l.length ≤ maxLen) : IntsOwn W lo v l := by
 subst hn
 refine ⟨l.map fun z => [Value.int .i64 z], by rw [flat_ints]; exact h, by simp, hl, fun ys hy => ?_, fun j ys x h1 h2 => ?_⟩
 ·obtain ⟨z, -, rfl⟩ := List.mem_map.1 hy; rfl
 ·rw [List.getElem?_map, h2] at h1
  cases h1
  rfl
/-- slices.Sort at ints. -/
theorem sortI_any (v : Value) (l : List Int) (lo : Nat) (w : World) (hlen : l.length ≤ 10000) (hlo : lo ≤ w.heap.size) (h : IntsOwn w lo v l) :
  Calls Tryz.prog 98 #[v] w fun e w' => e = .returned (.tuple #[]) ∧ IntsOwn w' lo v (l.mergeSort fun x y => decide (x ≤ y)) ∧ Below lo w w' := by
 have hr := ints_row h
 rcases hr.2 with ⟨rfl, h0⟩ | ⟨g, cap, cur, rfl, hg, hb, h1, h2, h3, h4⟩
 ·have hk : l = [] := List.length_eq_zero_iff.1 h0
  subst hk
  have hcon := AnyM.slices_Sort_int_none sortI14 none 0 w
  refine Calls.mono hcon ?_
  rintro e w' ⟨rfl, rfl⟩
  exact ⟨rfl, by simpa using h, Below.refl _ _⟩
 ·have hcon := AnyM.slices_Sort_int sortI14 g 0 cap l w (holds_of_blockI hb (by simpa using h4)) (heap_lt hb) (by omega)
  refine Calls.mono hcon ?_
  rintro e w' ⟨rfl, n, os, rfl⟩
  have hl : (l.mergeSort fun x y => decide (x ≤ y)).length = l.length := List.length_mergeSort _
  exact ⟨rfl, row_ints (ownsRow_sortedI hl hg hb h1 h2 h3) hl.symm (by rw [hl]; unfold maxLen; omega), (Below.refl lo w).grown (grownBy_sortedI _) hlo (fun k e => by cases e; exact hg)⟩
set_option maxHeartbeats 8000000 in
theorem rise14_any (b : Nat) (g : K13 → Prop) (kind : Int) (w : World) (hg : Gath w b g) (hf : Fit14 g) :
  Calls Tryz.prog 63 #[.map (some b), .int .u8 kind] w fun e w' => ∃ A n c, e = .returned (.slice A n c) ∧ IntsOwn w' w.heap.size (.slice A n c) (idsL fun id => gB g (kind, id)) ∧ Below w.heap.size w w' := by
 obtain ⟨es, hge⟩ := hg
 have GE := Lib.hid hge
 have NE : Hid (es.length ≤ 396) := Lib.hid (hge.len hf)
 have FIT := Lib.hid hf
 clear hge hf
 go_enter Tryz.func63, Tryz.ntmps63
 go_wp2_with (at_range; refine wpList_range13 _ rfl _ 73 78 rfl Tryz.underlying73 b es rfl GE.out.map ?_; intro w0 hi0 hg0 hs0)
 go_frame
 obtain ⟨r, hr⟩ : ∃ n, n = w.heap.size := ⟨_, rfl⟩
 have LR := Lib.hid (Nat.le_of_eq hr.symm)
 have BR : Hid (b < r) := Lib.hid (by rw [hr]; exact GE.out.lt)
 have RS : Hid (w.heap.size ≤ r + 1) := Lib.hid (by omega)
 have H0 : Hid (Iter13 w0 b r es [] es.length ∧ Below w.heap.size w w0 ∧ r + 1 ≤ w0.heap.size) := Lib.hid ⟨by rw [hr]; exact hi0, ⟨hg0.os, hg0.tape, hg0.output, hg0.size, fun i hi => hg0.block i hi (by simp)⟩, by omega⟩
 rw [← hr]
 clear hi0 hg0 hs0 hr
 go_loopw [5] (fun s5 wr => ∃ (vs : Ents) (cnt m c : Nat) (A : Option Addr), s5 = .slice A m c ∧ m = (ofKind kind vs).length ∧ IntsOwn wr (r + 1) (.slice A m c) (ofKind kind vs) ∧ Iter13 wr b r es vs cnt ∧ Below w.heap.size w wr ∧ r + 1 ≤ wr.heap.size) (fun _ wr => wr.rangeLeft b r)
 case atStart => exact ⟨[], _, 0, 0, none, rfl, rfl, ListOwn.nil_, H0.out⟩
 case round =>
  clear H0
  obtain ⟨vs, cnt, m, c, A, rfl, hm, ho, hit, hbw, hsz⟩ := hrel
  have HM := Lib.hid hm
  have HO := Lib.hid ho
  have IT := Lib.hid hit
  have BW := Lib.hid hbw
  have SZ := Lib.hid hsz
  have ML9 : Hid (m ≤ 396) := Lib.hid (by rw [hm]; exact Nat.le_trans (ofKind_len kind vs) (Nat.le_trans (iter_fewer hit) NE.out))
  clear hm ho hit hbw hsz
  go_wp2_with (at_next; refine wpList_next13 _ rfl _ rfl b r es vs cnt GE.out.nd rfl IT.out ?_ ?_)
  ·intro hc0
   subst hc0
   have HP := Lib.hid (IT.out.all GE.out.nd)
   have HS : Hid ((ofKind kind vs).mergeSort (fun x y => decide (x ≤ y)) = idsL fun id => gB g (kind, id)) := Lib.hid (sort_ids (ofKind_nodup kind vs (by
     have h1 := (HP.out.map (fun q : K13 × Value => q.1)).nodup_iff
     exact h1.2 GE.out.nd)) (fun id => by
     rw [ofKind_mem, gB_iff, ← GE.out.keys]
     exact (HP.out.map (fun q : K13 × Value => q.1)).mem_iff) (fun id h => (FIT.out _ (gB_iff.1 h)).2))
   have HC := sortI_any (.slice A m c) (ofKind kind vs) (r + 1) wr (by have := ML9.out; have := HM.out; omega) SZ.out HO.out
   rw [HS.out] at HC
   go_wp2_with (go_at_call 98; refine HC.mono ?_; rintro e w5 ⟨rfl, ho5, b5⟩; have HF := Lib.hid ho5; have BF := Lib.hid (BW.out.trans (b5.mono RS.out)); clear ho5 b5 HC)
   go_ret
   exact ⟨_, _, _, rfl, HF.out.mono RS.out, BF.out⟩
  ·intro kd kid pv w2 cnt2 hpe hpn hi2 hlt hg2 hs2 hen
   have BG := iter_below13 (n := 0) (m := 0) (es := es) (vs := vs) (vs' := vs) (b := b) hg2 LR.out BW.out.size
   have BW2 := Lib.hid (BW.out.trans BG)
   have SZ2 : Hid (r + 1 ≤ w2.heap.size) := Lib.hid (Nat.le_trans SZ.out hg2.size)
   have HO2 : Hid (IntsOwn w2 (r + 1) (.slice A m c) (ofKind kind vs)) := Lib.hid (own_kept intF HO.out hg2 (fun k hk e => by subst e; have := (own_block HO.out hk); obtain ⟨cur, hc, hlo⟩ := this; omega))
   have ML : Hid (cnt2 < wr.rangeLeft b r) := Lib.hid (by rw [IT.out.left_eq]; exact hlt)
   have IT2 := Lib.hid hi2
   clear hi2 hlt hg2 hs2 hpe hpn BW IT HO SZ BG
   unfold keyV at hen
   dsimp only at hen
   go_upto_region 5 with ((with_reducible show wpList _ _ _ (⟨none, .store _ _ _, _, _, _, _⟩ :: _) _ _); refine wpList_store_rowS rfl _ (.tmp 6) (.tmp 12) rfl w2.heap.size rfl (c' := #[.int .u8 kd, .int .i64 kid]) rfl (heap_alloc_self w2 (.cells #[.int .u8 0, .int .i64 0] 77)) infoEl14 rfl (by simp [Value.oneCell']) ?_)
   rw [World.setRow_alloc_new]
   have hx1 := heap_alloc_self w2 (.cells #[.int .u8 kd, .int .i64 kid] 77)
   have hb1 := below_new w2 (.cells #[.int .u8 kd, .int .i64 kid] 77)
   have IT3 := Lib.hid (IT2.out.below hb1 IT2.out.map.lt IT2.out.lt)
   have BW3 := Lib.hid (BW2.out.trans (hb1.mono BW2.out.size))
   have HO3 := Lib.hid (HO2.out.below intR hb1)
   have SZ3 : Hid (r + 1 ≤ (w2.alloc (.cells #[.int .u8 kd, .int .i64 kid] 77)).heap.size) := Lib.hid (Nat.le_trans SZ2.out hb1.size)
   generalize w2.alloc (.cells #[.int .u8 kd, .int .i64 kid] 77) = w3 at hx1 IT3 BW3 HO3 SZ3 hb1 ⊢
   generalize w2.heap.size = kb at hx1 ⊢
   obtain ⟨k0, k1⟩ := cell2_of hx1
   clear hx1 hb1 hen IT2 BW2 HO2 SZ2
   by_cases he : kd = kind
   ·have d0 : (kd == kind) = true := by simpa using he
    have HN : Hid (ofKind kind (vs ++ [((kd, kid), pv)]) = ofKind kind vs ++ [kid]) := Lib.hid (ofKind_yes vs he)
    have hm9 : m ≤ 396 := ML9.out
    clear he
    go_wp2_with ((with_reducible show wpList _ _ _ (⟨some 21, _, _, _, _, _⟩ :: _) _ _); refine wpList_append_one (W := w3) rfl (.tmp 17) (.tmp 20) rfl slI14 intR (fun _ h _ _ => h) rfl rfl HO3.out HM.out (ys := [.int .i64 kid]) (x := kid) rfl (by simp [Value.oneCell']) rfl (by omega) SZ3.out ?_; intro A6 c6 w6 ho6 hb6; have O6 := Lib.hid ho6; have B6 := Lib.hid (BW3.out.trans (hb6.mono RS.out)); have IT6 := Lib.hid (IT3.out.below hb6 (Nat.lt_succ_of_lt BR.out) (Nat.lt_succ_self r)); have SZ6 : Hid (r + 1 ≤ w6.heap.size) := Lib.hid (Nat.le_trans SZ3.out hb6.size); clear ho6 hb6 k0 k1)
    go_roundw
    case measure => rw [IT6.out.left_eq]; exact ML.out
    case rel => exact ⟨vs ++ [((kd, kid), pv)], cnt2, m + 1, c6, A6, by first | rfl | (push_cast; rfl), by rw [HN.out, List.length_append, HM.out]; rfl, by rw [HN.out]; exact O6.out, IT6.out, B6.out, SZ6.out⟩
   ·have d0 : (kd == kind) = false := by simpa using he
    have HN : Hid (ofKind kind (vs ++ [((kd, kid), pv)]) = ofKind kind vs) := Lib.hid (ofKind_no vs he)
    clear he
    go_wp2_with fail
    go_roundw
    case measure => rw [IT3.out.left_eq]; exact ML.out
    case rel => exact ⟨vs ++ [((kd, kid), pv)], cnt2, m, c, A, rfl, by rw [HN.out]; exact HM.out, by rw [HN.out]; exact HO3.out, IT3.out, BW3.out, SZ3.out⟩
set_option maxHeartbeats 8000000 in
theorem area14_any (b : Nat) (g : K13 → Prop) (w : World) (hg : Gath w b g) (hf : Fit14 g) :
  Calls Tryz.prog 33 #[.map (some b)] w fun e w' => ∃ A0 n0 c0 A1 n1 c1 A2 n2 c2 A3 n3 c3, e = .returned (.agg #[.slice A0 n0 c0, .slice A1 n1 c1, .slice A2 n2 c2, .slice A3 n3 c3]) ∧ ArOwn w' w.heap.size (.slice A0 n0 c0) (.slice A1 n1 c1) (.slice A2 n2 c2) (.slice A3 n3 c3) (arOf (fun k i => gB g (k, i))) ∧ Below w.heap.size w w' := by
 have FIT := Lib.hid hf
 have hq0 := heap_alloc_self w (.cells #[.slice none 0 0, .slice none 0 0, .slice none 0 0, .slice none 0 0] 24)
 have hqb := below_new w (.cells #[.slice none 0 0, .slice none 0 0, .slice none 0 0, .slice none 0 0] 24)
 have hsz : (w.alloc (.cells #[.slice none 0 0, .slice none 0 0, .slice none 0 0, .slice none 0 0] 24)).heap.size = w.heap.size + 1 := by unfold World.alloc; simp
 go_enter Tryz.func33, Tryz.ntmps33
 go_upto_region 1 with fail
 have GQ0 := hg.below hqb hg.lt
 generalize w.alloc (.cells #[.slice none 0 0, .slice none 0 0, .slice none 0 0, .slice none 0 0] 24) = q at hq0 hqb hsz GQ0 ⊢
 have GQ := Lib.hid GQ0
 have XQ := Lib.hid hq0
 have BW := Lib.hid hqb
 have LW : Hid (w.heap.size < q.heap.size) := Lib.hid (by omega)
 have BQ0 : Hid (Below q.heap.size q q) := Lib.hid (Below.refl _ _)
 clear hq0 hqb hsz GQ0 hg hf
 go_wp2_with fail
 refine (rise14_any b g 1 q (GQ.out.below BQ0.out GQ.out.lt) FIT.out).mono ?_
 rintro e w1 ⟨A0, n0, c0, rfl, ho_, b_⟩
 have O0 := Lib.hid (ho_.mono BQ0.out.size)
 have BQ1 := Lib.hid (BQ0.out.trans (b_.mono BQ0.out.size))
 clear ho_ b_
 go_wp2_with fail
 refine (rise14_any b g 2 w1 (GQ.out.below BQ1.out GQ.out.lt) FIT.out).mono ?_
 rintro e w2 ⟨A1, n1, c1, rfl, ho_, b_⟩
 have O0' := Lib.hid (O0.out.below intR b_)
 clear O0
 have O0 := O0'
 clear O0'
 have O1 := Lib.hid (ho_.mono BQ1.out.size)
 have BQ2 := Lib.hid (BQ1.out.trans (b_.mono BQ1.out.size))
 clear ho_ b_
 go_wp2_with fail
 refine (rise14_any b g 3 w2 (GQ.out.below BQ2.out GQ.out.lt) FIT.out).mono ?_
 rintro e w3 ⟨A2, n2, c2, rfl, ho_, b_⟩
 have O0' := Lib.hid (O0.out.below intR b_)
 clear O0
 have O0 := O0'
 clear O0'
 have O1' := Lib.hid (O1.out.below intR b_)
 clear O1
 have O1 := O1'
 clear O1'
 have O2 := Lib.hid (ho_.mono BQ2.out.size)
 have BQ3 := Lib.hid (BQ2.out.trans (b_.mono BQ2.out.size))
 clear ho_ b_
 go_wp2_with fail
 refine (rise14_any b g 4 w3 (GQ.out.below BQ3.out GQ.out.lt) FIT.out).mono ?_
 rintro e w4 ⟨A3, n3, c3, rfl, ho_, b_⟩
 have O0' := Lib.hid (O0.out.below intR b_)
 clear O0
 have O0 := O0'
 clear O0'
 have O1' := Lib.hid (O1.out.below intR b_)
 clear O1
 have O1 := O1'
 clear O1'
 have O2' := Lib.hid (O2.out.below intR b_)
 clear O2
 have O2 := O2'
 clear O2'
 have O3 := Lib.hid (ho_.mono BQ3.out.size)
 have BQ4 := Lib.hid (BQ3.out.trans (b_.mono BQ3.out.size))
 clear ho_ b_
 go_wp2_with ((with_reducible show wpList _ _ _ (⟨none, .store _ _ _, _, _, _, _⟩ :: _) _ _); have hrow := (BQ4.out.block _ (heap_lt XQ.out)).trans XQ.out; refine wpList_store_rowS rfl _ (.tmp 2) (.tmp 11) rfl w.heap.size rfl (c' := #[.slice A0 n0 c0, .slice A1 n1 c1, .slice A2 n2 c2, .slice A3 n3 c3]) rfl hrow infoArea4 rfl (by simp [Value.oneCell']) ?_)
 have hg := grownBy_setRow w4 w.heap.size #[.slice A0 n0 c0, .slice A1 n1 c1, .slice A2 n2 c2, .slice A3 n3 c3]
 have hrow := (BQ4.out.block _ (heap_lt XQ.out)).trans XQ.out
 have HA : ArOwn w4 w.heap.size (.slice A0 n0 c0) (.slice A1 n1 c1) (.slice A2 n2 c2) (.slice A3 n3 c3) (arOf (fun k i => gB g (k, i))) := ⟨O0.out.mono BW.out.size, O1.out.mono BW.out.size, O2.out.mono BW.out.size, O3.out.mono BW.out.size⟩
 refine bodyPost_ret (results_cell_row rfl _ _ w.heap.size 24 #[.slice A0 n0 c0, .slice A1 n1 c1, .slice A2 n2 c2, .slice A3 n3 c3] (0, 0) _ rfl (setRow_heap w4 _ _ #[.slice A0 n0 c0, .slice A1 n1 c1, .slice A2 n2 c2, .slice A3 n3 c3] _ _ hrow) Tryz.underlying24 rfl infoArea4) rfl ⟨_, _, _, _, _, _, _, _, _, _, _, _, rfl, HA.off hg ⟨_, hrow⟩, (BW.out.trans (BQ4.out.mono BW.out.size)).trans (gb_low14 hg (Nat.le_refl _) (Nat.le_trans BW.out.size BQ4.out.size))⟩
end Go.Proofs.YtneeocnjfnneoaaGreat
