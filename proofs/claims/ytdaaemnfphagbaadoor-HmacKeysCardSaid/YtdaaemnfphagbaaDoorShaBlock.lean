/-
  What a block makes of eight words.
  Conditions: the table of constants reads as it was laid.
-/
import Derived.Test.YtdaaemnfphagbaaDoorShaWords
import Derived.StillTailTactics
set_option linter.unusedVariables false
set_option linter.unusedSimpArgs false
namespace Go.Proofs.YtdaaemnfphagbaaDoor
open Go.RowKit

/-- The table of constants lies in its place. -/
def Tab (w : World) : Prop := ∀ (i n : Nat), kk[i]? = some n → w.cell? ⟨0, i, none⟩ = some (.int .u32 (n : Int))
theorem Tab.pos {w : World} (h : Tab w) : 0 < w.heap.size := cell_lt (h 0 1116352408 rfl)
theorem Tab.below {w w' : World} {B : Nat} (h : Tab w) (hb : Below B w w') (hB : 0 < B) : Tab w' := fun i n hi => (hb.cell (p := ⟨0, i, none⟩) hB).trans (h i n hi)
theorem kk_get {i : Nat} (h : i < 64) : kk[i]? = some (kk.getD i 0) := by
  rw [List.getD_eq_getElem?_getD, List.getElem?_eq_getElem (show i < kk.length from h)]; rfl

theorem infoWord : (Tryd.prog.info? 42).map (fun i => (i.zero, i.size, i.bytes)) = some (some (.int .u32 0), 1, 4) := by kernel_rfl

theorem run_load_row {w : World} {b : Nat} {c : Array Value} {t ty : TypeId} {fr : Nat × Nat} {n e : Nat} (hb : w.heap[b]? = some (.cells c t fr)) (hu : Tryd.prog.underlying ty = some (.array n e)) (hi : (Tryd.prog.info? ty).map (·.size) = some c.size) :
    (Instr.loadAt ty (.pointer (some ⟨b, 0, none⟩))).run Tryd.prog w = .ok (.agg c) w := by
  simp only [Instr.loadAt, Instr.sureAddr, Sem.run_bind, Sem.run_pure, Result.andThen_ok, run_loadVar_row w b t ty c fr (.array n e) hb hu rfl hi]

/-- A whole array, loaded in the head of a region that draws its order. -/
theorem wpStill_load_row {P : Program} {ops : Array Oper} {w : World} {Q : Act → Prop} {a : Act} {o : Oper} {rest : List Oper} (hgd : o.guard = none) (ty : TypeId) (x : Operand) (ho : o.op = .load ty x) (b : Nat) (hx : a.eval x = .pointer (some ⟨b, 0, none⟩))
    {c : Array Value} (hrun : (Instr.loadAt ty (.pointer (some ⟨b, 0, none⟩))).run P w = .ok (.agg c) w) (h : wpStill P ops w Q rest (a.put o.dst (.agg c))) : wpStill P ops w Q (o :: rest) a := by
  refine wpStill_step (fun K hK => ?_)
  rw [if_pos (by simp [Region.wanted, hgd])]
  unfold Oper.still execOp
  simp only [ho, hx, hrun, Sem.run_bind, Result.andThen_ok, Sem.run_pure, Functor.map]
  first
    | exact ⟨rfl, hK _ h⟩
    | (rw [Sem.run_bind, hrun]; exact ⟨rfl, hK _ h⟩)

/-- What holds at the head of Block's great loop. -/
def AtHead (w : World) (h ws : List Nat) (bw bm t : Nat) (v : World) : Prop :=
  v.heap[w.heap.size]? = some (.cells (row32 h) 43 (0, 0)) ∧ v.heap[w.heap.size + 1 + 1]? = some (.cells (Array.replicate 8 (.int .u32 0)) 43 (0, 0)) ∧
  v.heap[bw]? = some (.cells (row32 (winL ws (t - 16))) 48 (0, 0)) ∧ v.heap[bm]? = some (.cells (row32 (rounds (sched ws 48) h t)) 43 (0, 0)) ∧ Below w.heap.size w v

/-- What holds when the window bears word t. -/
def AtMid (w : World) (h ws : List Nat) (bw bm t : Nat) (v : World) : Prop :=
  v.heap[w.heap.size]? = some (.cells (row32 h) 43 (0, 0)) ∧ v.heap[w.heap.size + 1 + 1]? = some (.cells (Array.replicate 8 (.int .u32 0)) 43 (0, 0)) ∧
  v.heap[bw]? = some (.cells (row32 (winL ws (t + 1 - 16))) 48 (0, 0)) ∧ v.heap[bm]? = some (.cells (row32 (rounds (sched ws 48) h t)) 43 (0, 0)) ∧ Below w.heap.size w v
theorem heap_lt {w : World} {b : Nat} {o : Obj} (h : w.heap[b]? = some o) : b < w.heap.size := (Array.getElem?_eq_some_iff.1 h).1
theorem AtMid.below {w v v' : World} {h ws : List Nat} {bw bm t : Nat} (a : AtMid w h ws bw bm t v) (b : Below v.heap.size v v') : AtMid w h ws bw bm t v' := by
  obtain ⟨h1, h2, h3, h4, h5⟩ := a
  exact ⟨(b.block _ (heap_lt h1)).trans h1, (b.block _ (heap_lt h2)).trans h2, (b.block _ (heap_lt h3)).trans h3, (b.block _ (heap_lt h4)).trans h4, h5.trans (b.mono h5.size)⟩
theorem AtMid.drew {w v : World} {h ws : List Nat} {bw bm t : Nat} (a : AtMid w h ws bw bm t v) : AtMid w h ws bw bm t v.drew := ⟨a.1, a.2.1, a.2.2.1, a.2.2.2.1, a.2.2.2.2.drew⟩
theorem step_int (l : List Nat) (m : Nat) (M : Int) (hM : M = (m : Int)) (hl : W32 8 l) (hm : m < 4294967296) (w : World) :
    Calls Tryd.prog 25 #[.agg (row32 l), .int .u32 M] w fun x w' => x = .returned (.agg (row32 (stepL m l))) ∧ Below w.heap.size w w' := by
  subst hM
  exact step_any l m hl hm w

set_option maxHeartbeats 1000000 in
theorem block_any (h : List Nat) (hh : W32 8 h) (B : List UInt8) (hB : B.length = 64) (w : World) (hT : Tab w) :
    Calls Tryd.prog 18 #[.agg (row32 h), .agg (rowB B)] w fun e w' => e = .returned (.agg (row32 (blockL h B))) ∧ Below w.heap.size w w' := by
  obtain ⟨ws, hws⟩ : ∃ ws, ws = words16 B := ⟨_, rfl⟩
  have hblk : blockL h B = addL h (rounds (sched ws 48) h 64) := by rw [hws]; rfl
  rw [hblk]
  have W1 : Hid (W32 16 ws) := Lib.hid (by rw [hws]; exact words16_ok B)
  have HW := Lib.hid hws
  clear hblk hws
  have hz8 := zero8.1
  have hz16 := zero16.1
  have HT := Lib.hid hT
  have HHH := Lib.hid hh
  have HBL := Lib.hid hB
  have hf0 : (((w.alloc (.cells (row32 h) 43)).alloc (.cells (rowB B) 37)).alloc (.cells (Array.replicate 8 (.int .u32 0)) 43)).heap[w.heap.size]? = some (.cells (row32 h) 43 (0, 0)) := by
    rw [heap_alloc_lt _ _ (by rw [heap_alloc_size, heap_alloc_size]; omega), heap_alloc_lt _ _ (by rw [heap_alloc_size]; omega), heap_alloc_self]
  have hf1 : (((w.alloc (.cells (row32 h) 43)).alloc (.cells (rowB B) 37)).alloc (.cells (Array.replicate 8 (.int .u32 0)) 43)).heap[w.heap.size + 1]? = some (.cells (rowB B) 37 (0, 0)) := by
    rw [heap_alloc_lt _ _ (by rw [heap_alloc_size, heap_alloc_size]; omega)]
    have := heap_alloc_self (w.alloc (.cells (row32 h) 43)) (.cells (rowB B) 37)
    rwa [heap_alloc_size] at this
  have hf2 : (((w.alloc (.cells (row32 h) 43)).alloc (.cells (rowB B) 37)).alloc (.cells (Array.replicate 8 (.int .u32 0)) 43)).heap[w.heap.size + 1 + 1]? = some (.cells (Array.replicate 8 (.int .u32 0)) 43 (0, 0)) := by
    have := heap_alloc_self ((w.alloc (.cells (row32 h) 43)).alloc (.cells (rowB B) 37)) (.cells (Array.replicate 8 (.int .u32 0)) 43)
    rwa [heap_alloc_size, heap_alloc_size] at this
  have hfb : Below w.heap.size w (((w.alloc (.cells (row32 h) 43)).alloc (.cells (rowB B) 37)).alloc (.cells (Array.replicate 8 (.int .u32 0)) 43)) :=
    (((Below.refl _ _).alloc (Nat.le_refl _) _).alloc (by simp) _).alloc (by simp; omega) _
  have hfs : w.heap.size + 1 + 1 + 1 = (((w.alloc (.cells (row32 h) 43)).alloc (.cells (rowB B) 37)).alloc (.cells (Array.replicate 8 (.int .u32 0)) 43)).heap.size := by simp
  have F0 := Lib.hid hf0
  have F1 := Lib.hid hf1
  have F2 := Lib.hid hf2
  have FB := Lib.hid hfb
  have FS := Lib.hid hfs
  clear hf0 hf1 hf2 hfb hfs hT hh hB
  go_enter Tryd.func18, Tryd.ntmps18
  go_wp2_with (refine wpList_load_row rfl 37 _ rfl _ rfl F1.out Tryd.underlying37 (by rw [rowB_size, HBL.out]; exact info64) ?_)
  refine (words_any B HBL.out _).mono ?_
  rintro e w1 ⟨rfl, b⟩
  have hs1 : w.heap.size + 1 + 1 + 1 ≤ w1.heap.size := by have := b.size; have := FS.out; omega
  have G0 := Lib.hid ((b.block w.heap.size (by rw [← FS.out]; omega)).trans F0.out)
  have G2 := Lib.hid ((b.block (w.heap.size + 1 + 1) (by rw [← FS.out]; omega)).trans F2.out)
  have GB := Lib.hid (FB.out.trans (b.mono (by rw [← FS.out]; omega)))
  have GS := Lib.hid hs1
  clear b F0 F1 F2 FB FS hs1
  rw [← HW.out]
  go_wp2_with (first
    | refine wpList_store_row rfl 48 _ _ rfl w1.heap.size rfl rfl (heap_alloc_self _ _) (by rw [row32_size, W1.out.1]; exact zero16.2) (by rw [row32_size, W1.out.1]; simp) (row32_one _) ?_; rw [World.setRow_alloc_new]
    | refine wpList_load_row rfl 43 _ rfl w.heap.size rfl ((heap_alloc_lt _ _ (by have := GS.out; omega)).trans G0.out) Tryd.underlying43 (by rw [row32_size, HHH.out.1]; exact zero8.2) ?_
    | refine wpList_store_row rfl 43 _ _ rfl (w1.heap.size + 1) rfl rfl (by have := heap_alloc_self (w1.alloc (.cells (row32 ws) 48)) (.cells (Array.replicate 8 (.int .u32 0)) 43); rwa [heap_alloc_size] at this) (by rw [row32_size, HHH.out.1]; exact zero8.2) (by rw [row32_size, HHH.out.1]; simp) (row32_one _) ?_)
  have hv : AtHead w h ws w1.heap.size (w1.heap.size + 1) 0 (((w1.alloc (.cells (row32 ws) 48)).alloc (.cells (Array.replicate 8 (.int .u32 0)) 43)).setRow (w1.heap.size + 1) (row32 h)) := by
    have g := GS.out
    refine ⟨?_, ?_, ?_, ?_, ?_⟩
    · rw [setRow_other _ _ _ _ (by omega), heap_alloc_lt _ _ (by rw [heap_alloc_size]; omega), heap_alloc_lt _ _ (by omega)]; exact G0.out
    · rw [setRow_other _ _ _ _ (by omega), heap_alloc_lt _ _ (by rw [heap_alloc_size]; omega), heap_alloc_lt _ _ (by omega)]; exact G2.out
    · rw [setRow_other _ _ _ _ (by omega), heap_alloc_lt _ _ (by rw [heap_alloc_size]; omega), winL_zero W1.out.1]; exact heap_alloc_self _ _
    · refine setRow_heap _ _ (Array.replicate 8 (.int .u32 0)) _ _ _ ?_
      have := heap_alloc_self (w1.alloc (.cells (row32 ws) 48)) (.cells (Array.replicate 8 (.int .u32 0)) 43)
      rwa [heap_alloc_size] at this
    · exact below_setRow ((GB.out.alloc (by omega) _).alloc (by rw [heap_alloc_size]; omega) _) (by omega) _
  generalize ((w1.alloc (.cells (row32 ws) 48)).alloc (.cells (Array.replicate 8 (.int .u32 0)) 43)).setRow (w1.heap.size + 1) (row32 h) = v at hv ⊢
  have HV := Lib.hid hv
  clear hv G0 G2 GB HW
  obtain ⟨bw, hbw⟩ : ∃ bw, bw = w1.heap.size := ⟨_, rfl⟩
  rw [← hbw] at HV ⊢
  have GS' : Hid (w.heap.size + 1 + 1 + 1 ≤ bw) := Lib.hid (by rw [hbw]; exact GS.out)
  clear hbw GS
  clear w1
  go_loopw [13] (fun s13 wr => ∃ t : Nat, t ≤ 64 ∧ s13 = .int .i64 t ∧ AtHead w h ws bw (bw + 1) t wr) (fun s13 _ => 64 - (intOf s13).toNat)
  case atStart => exact ⟨0, by omega, rfl, HV.out⟩
  case round =>
    obtain ⟨t, ht, rfl, hr⟩ := hrel
    have HR := Lib.hid hr
    clear hr HV
    by_cases hlt : t < 64
    · have hlt' : (t : Int) < 64 := by omega
      have hqm : (t : Int) % 16 = ((t % 16 : Nat) : Int) := by omega
      obtain ⟨j, hj⟩ : ∃ j, j = t % 16 := ⟨_, rfl⟩
      have hjl : (j : Int) < 16 := by omega
      rw [← hj] at hqm
      have hqt : (t : Int).tmod 16 = j := by rw [Int.tmod_eq_emod_of_nonneg (by omega)]; exact hqm
      have HJ := Lib.hid hj
      clear hj
      by_cases h16 : 16 ≤ t
      · have h16' : (16 : Int) ≤ t := by omega
        go_wp2_with fail
        refine (next_any ws W1.out (t - 16) bw (by omega) _ (by omega) _ _ HR.out.2.2.1).mono ?_
        rintro e w2 ⟨rfl, b⟩
        have e16 : 16 + (t - 16) = t := by omega
        have emod : (t - 16) % 16 = j := by have := HJ.out; omega
        have hset := winL_succ W1.out.1 (t - 16)
        rw [e16, emod, show t - 16 + 1 = t + 1 - 16 by omega] at hset
        have HB2 := Lib.hid b
        have f3 := (b.block bw (heap_lt HR.out.2.2.1)).trans HR.out.2.2.1
        obtain ⟨y, hy⟩ : ∃ y, (winL ws (t - 16))[j]? = some y := ⟨_, List.getElem?_eq_getElem (by rw [winL_length]; omega)⟩
        have hc := row32_cell f3 hy
        have hf := frozen_of_row w2 bw j _ _ f3
        have F3 := Lib.hid f3
        have HS := Lib.hid hset
        rw [e16]
        clear b f3 hset e16 emod hy
        have hx := wordAt_lt (sched ws (t - 16)) t
        generalize wordAt (sched ws (t - 16)) t = x at HS hx ⊢
        go_wp2
        have hm : AtMid w h ws bw (bw + 1) t (w2.setCell ⟨bw, j, none⟩ (.int .u32 (x : Int))) := by
          obtain ⟨r0, r2, r3, r4, r5⟩ := HR.out
          have g := GS'.out
          refine ⟨?_, ?_, ?_, ?_, ?_⟩
          · rw [heap_setCell_other _ _ _ _ (show w.heap.size ≠ bw by omega), HB2.out.block _ (heap_lt r0)]; exact r0
          · rw [heap_setCell_other _ _ _ _ (show w.heap.size + 1 + 1 ≠ bw by omega), HB2.out.block _ (heap_lt r2)]; exact r2
          · rw [heap_setCell_same _ _ _ _ _ _ F3.out, row32_set, HS.out]
          · rw [heap_setCell_other _ _ _ _ (show bw + 1 ≠ bw by omega), HB2.out.block _ (heap_lt r4)]; exact r4
          · exact (r5.trans (HB2.out.mono r5.size)).setCell (show w.heap.size ≤ bw by omega) _
        generalize w2.setCell ⟨bw, j, none⟩ (.int .u32 (x : Int)) = v at hm ⊢
        have HM := Lib.hid hm
        clear hm F3 HS HB2 hc hf hx HR h16 h16'
        have hd : AtMid w h ws bw (bw + 1) t v.drew := HM.out.drew
        refine wp_region_still_tail 9 (by kernel_rfl) (by kernel_rfl) ?_
        change wpStill _ _ (World.drew v) (fun a' => wpList _ _ _ _ a' (World.drew v)) _ _
        generalize World.drew v = u at hd ⊢
        have HD := Lib.hid hd
        have RK := Lib.hid (rounds_ok (ws := sched ws 48) HHH.out t)
        have hload := run_load_row HD.out.2.2.2.1 Tryd.underlying43 (by rw [row32_size, RK.out.1]; exact zero8.2)
        have hck := (HT.out.below HD.out.2.2.2.2 HT.out.pos) t _ (kk_get hlt)
        have hcw := row32_cell HD.out.2.2.1 (j := j) (n := (sched ws 48).getD t 0) (by rw [HJ.out, winL_at ws (by omega) (by omega), sched_getD W1.out.1 (show t + 1 - 16 ≤ 48 by omega) (by omega)])
        have hk := kk_ok.getD t
        have hw := (sched_ok W1.out 48).getD t
        have hstep : rounds (sched ws 48) h (t + 1) = stepL ((kk.getD t 0 + (sched ws 48).getD t 0) % 4294967296) (rounds (sched ws 48) h t) := rfl
        have HST := Lib.hid hstep
        have HB0 := Lib.hid hd.2.2.2.1
        clear hd hstep HM
        generalize kk.getD t 0 = k at *
        generalize (sched ws 48).getD t 0 = x at *
        simp only [List.take_succ_cons, List.take_zero, List.drop_succ_cons, List.drop_zero]
        refine wpStill_load_row rfl 43 _ rfl (bw + 1) rfl hload ?_
        simp only [Act.put, List.setIfInBounds_toArray, List.set_cons_zero, List.set_cons_succ]
        clear hload
        repeat still_step
        refine wpStill_nil ?_
        clear hck hcw
        go_wp2_with fail
        refine (step_int _ ((k + x) % 4294967296) _ (by omega) RK.out (Nat.mod_lt _ (by omega)) _).mono ?_
        rintro e w3 ⟨rfl, b⟩
        have hu := HD.out.below b
        rw [← HST.out]
        have HU := Lib.hid hu
        have R1 := Lib.hid (rounds_ok (ws := sched ws 48) HHH.out (t + 1))
        clear hu b
        go_wp2_with (refine wpList_store_row rfl 43 _ _ rfl (bw + 1) rfl rfl HU.out.2.2.2.1 (by rw [row32_size, R1.out.1]; exact zero8.2) (by rw [row32_size, row32_size, R1.out.1, RK.out.1]) (row32_one _) ?_)
        go_roundw
        case measure => simp [intOf]; omega
        case rel =>
          obtain ⟨r0, r2, r3, r4, r5⟩ := HU.out
          have g := GS'.out
          refine ⟨t + 1, by omega, by go_num, ?_, ?_, ?_, ?_, ?_⟩
          · rw [setRow_other _ _ _ _ (by omega)]; exact r0
          · rw [setRow_other _ _ _ _ (by omega)]; exact r2
          · rw [setRow_other _ _ _ _ (by omega)]; exact r3
          · exact setRow_heap _ _ _ _ _ _ r4
          · exact below_setRow r5 (by omega) _
      · have h16' : ¬ (16 : Int) ≤ t := by omega
        go_wp2
        have hm : AtMid w h ws bw (bw + 1) t wr := by
          have := HR.out
          unfold AtHead at this
          unfold AtMid
          rw [show t + 1 - 16 = t - 16 by omega]
          exact this
        generalize wr = v at hm ⊢
        have HM := Lib.hid hm
        clear hm h16 h16'
        have hd : AtMid w h ws bw (bw + 1) t v.drew := HM.out.drew
        refine wp_region_still_tail 9 (by kernel_rfl) (by kernel_rfl) ?_
        change wpStill _ _ (World.drew v) (fun a' => wpList _ _ _ _ a' (World.drew v)) _ _
        generalize World.drew v = u at hd ⊢
        have HD := Lib.hid hd
        have RK := Lib.hid (rounds_ok (ws := sched ws 48) HHH.out t)
        have hload := run_load_row HD.out.2.2.2.1 Tryd.underlying43 (by rw [row32_size, RK.out.1]; exact zero8.2)
        have hck := (HT.out.below HD.out.2.2.2.2 HT.out.pos) t _ (kk_get hlt)
        have hcw := row32_cell HD.out.2.2.1 (j := j) (n := (sched ws 48).getD t 0) (by rw [HJ.out, winL_at ws (by omega) (by omega), sched_getD W1.out.1 (show t + 1 - 16 ≤ 48 by omega) (by omega)])
        have hk := kk_ok.getD t
        have hw := (sched_ok W1.out 48).getD t
        have hstep : rounds (sched ws 48) h (t + 1) = stepL ((kk.getD t 0 + (sched ws 48).getD t 0) % 4294967296) (rounds (sched ws 48) h t) := rfl
        have HST := Lib.hid hstep
        have HB0 := Lib.hid hd.2.2.2.1
        clear hd hstep HM
        generalize kk.getD t 0 = k at *
        generalize (sched ws 48).getD t 0 = x at *
        simp only [List.take_succ_cons, List.take_zero, List.drop_succ_cons, List.drop_zero]
        refine wpStill_load_row rfl 43 _ rfl (bw + 1) rfl hload ?_
        simp only [Act.put, List.setIfInBounds_toArray, List.set_cons_zero, List.set_cons_succ]
        clear hload
        repeat still_step
        refine wpStill_nil ?_
        clear hck hcw
        go_wp2_with fail
        refine (step_int _ ((k + x) % 4294967296) _ (by omega) RK.out (Nat.mod_lt _ (by omega)) _).mono ?_
        rintro e w3 ⟨rfl, b⟩
        have hu := HD.out.below b
        rw [← HST.out]
        have HU := Lib.hid hu
        have R1 := Lib.hid (rounds_ok (ws := sched ws 48) HHH.out (t + 1))
        clear hu b
        go_wp2_with (refine wpList_store_row rfl 43 _ _ rfl (bw + 1) rfl rfl HU.out.2.2.2.1 (by rw [row32_size, R1.out.1]; exact zero8.2) (by rw [row32_size, row32_size, R1.out.1, RK.out.1]) (row32_one _) ?_)
        go_roundw
        case measure => simp [intOf]; omega
        case rel =>
          obtain ⟨r0, r2, r3, r4, r5⟩ := HU.out
          have g := GS'.out
          refine ⟨t + 1, by omega, by go_num, ?_, ?_, ?_, ?_, ?_⟩
          · rw [setRow_other _ _ _ _ (by omega)]; exact r0
          · rw [setRow_other _ _ _ _ (by omega)]; exact r2
          · rw [setRow_other _ _ _ _ (by omega)]; exact r3
          · exact setRow_heap _ _ _ _ _ _ r4
          · exact below_setRow r5 (by omega) _
    · obtain rfl : t = 64 := by omega
      have hlt' : ¬ (64 : Int) < 64 := by omega
      obtain ⟨r0, r2, r3, r4, r5⟩ := HR.out
      obtain ⟨g, hg⟩ : ∃ g, g = rounds (sched ws 48) h 64 := ⟨_, rfl⟩
      have RK : Hid (W32 8 g) := Lib.hid (by rw [hg]; exact rounds_ok HHH.out 64)
      rw [← hg] at r4
      have HG := Lib.hid hg
      clear hg
      rw [← addP_zero h g] at r0
      have R0 := Lib.hid r0
      have R2 := Lib.hid r2
      have R4 := Lib.hid r4
      have R5 := Lib.hid r5
      clear r0 r2 r3 r4 r5 HR hlt hlt'
      go_wp2_with (refine wpList_load_row rfl 43 _ rfl (bw + 1) rfl R4.out Tryd.underlying43 (by rw [row32_size, RK.out.1]; exact zero8.2) ?_)
      clear R4
      go_loopw [35] (fun s35 wx => ∃ i : Nat, i ≤ 8 ∧ s35 = .int .i64 i ∧ wx.heap[w.heap.size]? = some (.cells (row32 (addP h g i)) 43 (0, 0)) ∧ wx.heap[w.heap.size + 1 + 1]? = some (.cells (Array.replicate 8 (.int .u32 0)) 43 (0, 0)) ∧ Below w.heap.size w wx) (fun s35 _ => 8 - (intOf s35).toNat)
      case atStart => exact ⟨0, by omega, rfl, R0.out, R2.out, R5.out⟩
      case round =>
        obtain ⟨i, hi, rfl, q0, q2, q5⟩ := hrel
        clear R0 R2 R5
        have Q2 := Lib.hid q2
        have Q5 := Lib.hid q5
        by_cases hlt : i < 8
        · have hlt' : (i : Int) < 8 := by omega
          have hc := row32_cell q0 (addP_get HHH.out.1 RK.out.1 hlt)
          have hf := frozen_of_row wr w.heap.size i _ _ q0
          have hidx : ∀ w', (Instr.index 43 (.agg (row32 g)) (.int .i64 (i : Int))).run Tryd.prog w' = .ok (.int .u32 ((g.getD i 0 : Nat) : Int)) w' := fun w' => by
            obtain ⟨ie, h1, h2, h3, h4⟩ := info_parts infoWord
            exact run_index_row Tryd.underlying43 Tryd.underlying42 rfl h1 h3 hlt (row32_at (by rw [List.getD_eq_getElem?_getD, List.getElem?_eq_getElem (by rw [RK.out.1]; exact hlt)]; rfl))
          have hset : (row32 (addP h g i)).setIfInBounds i (.int .u32 ((((h.getD i 0 : Nat) : Int) + ((g.getD i 0 : Nat) : Int)) % 4294967296)) = row32 (addP h g (i + 1)) := by
            rw [← addP_set HHH.out.1 RK.out.1 hlt, ← row32_set]
            congr 2
          have HS := Lib.hid hset
          have Q0 := Lib.hid q0
          have l1 := HHH.out.getD i
          have l2 := RK.out.getD i
          clear q0 q2 q5 hset
          generalize h.getD i 0 = x at *
          generalize g.getD i 0 = y at *
          go_wp2
          go_roundw
          case measure => simp [intOf]; omega
          case rel =>
            refine ⟨i + 1, by omega, by go_num, ?_, ?_, ?_⟩
            · rw [heap_setCell_same _ _ _ _ _ _ Q0.out, HS.out]
            · rw [heap_setCell_other _ _ _ _ (show w.heap.size + 1 + 1 ≠ w.heap.size by omega)]; exact Q2.out
            · exact Q5.out.setCell (Nat.le_refl _) _
        · obtain rfl : i = 8 := by omega
          have hlt' : ¬ (8 : Int) < 8 := by omega
          rw [addP_all HHH.out.1 RK.out.1] at q0
          have ok := addL_length HHH.out.1 RK.out.1
          have Q0 := Lib.hid q0
          have OK := Lib.hid ok
          clear q0 q2 q5 ok hlt
          go_wp2_with (first
            | refine wpList_load_row rfl 43 _ rfl w.heap.size rfl Q0.out Tryd.underlying43 (by rw [row32_size, OK.out]; exact zero8.2) ?_
            | refine wpList_store_row rfl 43 _ _ rfl (w.heap.size + 1 + 1) rfl rfl Q2.out (by rw [row32_size, OK.out]; exact zero8.2) (by rw [row32_size, OK.out]; simp) (row32_one _) ?_)
          refine bodyPost_ret (v := .agg (row32 (addL h g))) ?_ rfl ⟨by rw [HG.out], below_setRow Q5.out (by omega) _⟩
          exact results_cell_row rfl _ _ (w.heap.size + 1 + 1) _ _ (0, 0) _ rfl (setRow_heap _ _ _ _ _ _ Q2.out) Tryd.underlying43 rfl (by rw [row32_size, OK.out]; exact zero8.2)
end Go.Proofs.YtdaaemnfphagbaaDoor
